/- MachSameC MachCode MachOnceWalk -/
import Derived.Test.YthfnnieklkaefaaGreatR03
import Derived.Test.YthfnnieklkaefaaGreatR07
import Derived.Test.YthfnnieklkaefaaGreatR08
import Derived.Test.YthfnnieklkaefaaGreatR13
import Derived.Test.YthfnnieklkaefaaGreatR14
import Derived.Test.YthfnnieklkaefaaGreatR16
namespace Go.Proofs.YthfnnieklkaefaaGreat
open Go.RowKit
set_option linter.unusedVariables false
set_option maxHeartbeats 2000000 in
set_option maxRecDepth 100000 in
theorem sameLast_any (w : World) {A A' : Option Addr} {c c' B B' : Nat} {a b : Ls} (ha : ∀ x ∈ a.v, x < 256) (hb : ∀ x ∈ b.v, x < 256) (h : Rd w B A a.v.length (bv a.v)) (h' : Rd w B' A' b.v.length (bv b.v)) :
    Calls Tryz.prog 36 #[.agg #[.int .i64 a.s, .int .i64 a.q, .int .i64 a.e, .slice A a.v.length c, .int .i64 a.n], .agg #[.int .i64 b.s, .int .i64 b.q, .int .i64 b.e, .slice A' b.v.length c', .int .i64 b.n]] w fun e w' => e = .returned (.bool (decide (a = b))) ∧ Below w.heap.size w w' := by
  have b0 : Below w.heap.size w ((w.alloc (.cells #[.int .i64 a.s, .int .i64 a.q, .int .i64 a.e, .slice A a.v.length c, .int .i64 a.n] 54)).alloc (.cells #[.int .i64 b.s, .int .i64 b.q, .int .i64 b.e, .slice A' b.v.length c', .int .i64 b.n] 54)) := ((Below.refl _ _).alloc (Nat.le_refl _) _).alloc (by simp) _
  have HB := Lib.hid b0
  have HK := Lib.hid ((Blk.new w 54 #[.int .i64 a.s, .int .i64 a.q, .int .i64 a.e, .slice A a.v.length c, .int .i64 a.n]).alloc (.cells #[.int .i64 b.s, .int .i64 b.q, .int .i64 b.e, .slice A' b.v.length c', .int .i64 b.n] 54))
  have HK' := Lib.hid (Blk.new (w.alloc (.cells #[.int .i64 a.s, .int .i64 a.q, .int .i64 a.e, .slice A a.v.length c, .int .i64 a.n] 54)) 54 #[.int .i64 b.s, .int .i64 b.q, .int .i64 b.e, .slice A' b.v.length c', .int .i64 b.n])
  rw [World.size_alloc] at HK'
  obtain ⟨D, hD⟩ : ∃ D : Bool, (decide (a.e = b.e) && decide (a.v = b.v) && decide (a.n = b.n)) = D := ⟨_, rfl⟩
  have HC := Lib.hid (sameRes8 _ (n := a.v.length) (n' := b.v.length) (c := c) (c' := c') a.e b.e a.n b.n ha hb (h.fit.below b0) (h'.fit.below b0))
  rw [hD] at HC
  have HD : Hid (decide (a = b) = (decide (a.s = b.s) && (decide (a.q = b.q) && D))) := Lib.hid (by
    rw [← hD, Bool.eq_iff_iff]
    simp only [decide_eq_true_eq, Bool.and_eq_true, Ls.eq_iff]
    constructor
    · rintro ⟨h1, h2, h3, h4, h5⟩; exact ⟨h1, h2, ⟨h3, h4⟩, h5⟩
    · rintro ⟨h1, h2, ⟨h3, h4⟩, h5⟩; exact ⟨h1, h2, h3, h4, h5⟩)
  rw [HD.out]
  clear hD HD h h' b0
  unfold resV at HC
  by_cases h1 : a.s = b.s
  · have r1 : (a.s == b.s) = true := by simpa using h1
    have q1 := Lib.hid (decide_eq_true h1)
    clear h1
    by_cases h2 : a.q = b.q
    · have r2 : (a.q == b.q) = true := by simpa using h2
      have q2 := Lib.hid (decide_eq_true h2)
      clear h2
      go_enter Tryz.func36, Tryz.ntmps36
      go_upto_region 1 with fail
      generalize (w.alloc (.cells #[.int .i64 a.s, .int .i64 a.q, .int .i64 a.e, .slice A a.v.length c, .int .i64 a.n] 54)).alloc (.cells #[.int .i64 b.s, .int .i64 b.q, .int .i64 b.e, .slice A' b.v.length c', .int .i64 b.n] 54) = wa at HB HK HK' HC ⊢
      obtain ⟨x0, x1, x2, x3, x4⟩ := five HK.out
      obtain ⟨y0, y1, y2, y3, y4⟩ := five HK'.out
      go_wp2_with (first
        | (go_at_call 107; refine HC.out.mono ?_; rintro en w1 ⟨rfl, hb1⟩)
        | fail)
      go_ret
      exact ⟨ret_bool (by rw [q1.out, q2.out]; simp), HB.out.trans (hb1.mono HB.out.size)⟩
    · have r2 : (a.q == b.q) = false := by simpa using h2
      have q2 := Lib.hid (decide_eq_false h2)
      clear h2
      go_enter Tryz.func36, Tryz.ntmps36
      go_upto_region 1 with fail
      generalize (w.alloc (.cells #[.int .i64 a.s, .int .i64 a.q, .int .i64 a.e, .slice A a.v.length c, .int .i64 a.n] 54)).alloc (.cells #[.int .i64 b.s, .int .i64 b.q, .int .i64 b.e, .slice A' b.v.length c', .int .i64 b.n] 54) = wa at HB HK HK' HC ⊢
      obtain ⟨x0, x1, x2, x3, x4⟩ := five HK.out
      obtain ⟨y0, y1, y2, y3, y4⟩ := five HK'.out
      go_wp2_with fail
      go_ret
      exact ⟨ret_bool (by rw [q2.out]; simp), HB.out⟩
  · have r1 : (a.s == b.s) = false := by simpa using h1
    have q1 := Lib.hid (decide_eq_false h1)
    clear h1
    go_enter Tryz.func36, Tryz.ntmps36
    go_upto_region 1 with fail
    generalize (w.alloc (.cells #[.int .i64 a.s, .int .i64 a.q, .int .i64 a.e, .slice A a.v.length c, .int .i64 a.n] 54)).alloc (.cells #[.int .i64 b.s, .int .i64 b.q, .int .i64 b.e, .slice A' b.v.length c', .int .i64 b.n] 54) = wa at HB HK HK' HC ⊢
    obtain ⟨x0, x1, x2, x3, x4⟩ := five HK.out
    obtain ⟨y0, y1, y2, y3, y4⟩ := five HK'.out
    go_wp2_with fail
    go_ret
    exact ⟨ret_bool (by rw [q1.out]; simp), HB.out⟩
set_option maxHeartbeats 2000000 in
set_option maxRecDepth 100000 in
theorem equalL_any (w : World) {A A' : Option Addr} {n c n' c' B B' : Nat} {ps ps' : List Ls} (hn : n ≤ 100000) (hn' : n' ≤ 100000) (hb : BytesLs ps) (hb' : BytesLs ps') (h : RdL w B A n ps) (h' : RdL w B' A' n' ps') :
    Calls Tryz.prog 35 #[.slice A n c, .slice A' n' c', .func (.func 36) #[] #[]] w fun e w' => e = .returned (.bool (decide (ps = ps'))) ∧ Below w.heap.size w w' := by
  have hl : ps.length = n := h.length
  have hl' : ps'.length = n' := h'.length
  by_cases hne : n = n'
  · subst hne
    have HL := Lib.hid hl
    have HL' := Lib.hid hl'
    have H := Lib.hid h.fit
    have H' := Lib.hid h'.fit
    have HB := Lib.hid hb
    have HB' := Lib.hid hb'
    clear h h' hl hl' hb hb'
    go_enter Tryz.func35, Tryz.ntmps35
    go_wp2_with fail
    go_loopw [7, 8, 9, 17] (fun _ _ _ i wr => ∃ j : Nat, j ≤ n ∧ i = .int .i64 j ∧ Hid (∀ i, i < j → ps[i]? = ps'[i]?) ∧ Hid (Below w.heap.size w wr)) (fun _ _ _ i _ => n - (intOf i).toNat)
    case atStart => exact ⟨0, Nat.zero_le _, rfl, Lib.hid (fun i hi => absurd hi (by omega)), Lib.hid (Below.refl _ _)⟩
    case round =>
      obtain ⟨j, hj, rfl, HS, HB0⟩ := hrel
      by_cases hlt : j < n
      · obtain ⟨b, o, p, A1, c1, rfl, hp, y0, y1, y2, y3, y4, hrd1⟩ := (H.out.below HB0.out).fit.at hlt
        obtain ⟨b', o', p', A3, c3, rfl, hp', z0, z1, z2, z3, z4, hrd3⟩ := (H'.out.below HB0.out).fit.at hlt
        have b1 : Below wr.heap.size wr (wr.alloc (.cells #[.int .i64 p.s, .int .i64 p.q, .int .i64 p.e, .slice A1 p.v.length c1, .int .i64 p.n] 54)) := (Below.refl _ _).alloc (Nat.le_refl _) _
        have x0 := cell_of b1 z0
        have x1 := cell_of b1 z1
        have x2 := cell_of b1 z2
        have x3 := cell_of b1 z3
        have x4 := cell_of b1 z4
        have b2 := b1.alloc b1.size (.cells #[.int .i64 p'.s, .int .i64 p'.q, .int .i64 p'.e, .slice A3 p'.v.length c3, .int .i64 p'.n] 54)
        have HC := Lib.hid (sameLast_any _ (c := c1) (c' := c3) (HB.out p (List.mem_of_getElem? hp)) (HB'.out p' (List.mem_of_getElem? hp')) (hrd1.below b2) (hrd3.below b2))
        have HB2 := Lib.hid b2
        have HP := Lib.hid hp
        have HP' := Lib.hid hp'
        clear hp hp' hrd1 hrd3 z0 z1 z2 z3 z4 b1 b2
        by_cases he : p = p'
        · have HD := Lib.hid (decide_eq_true he)
          have HE := Lib.hid he
          clear he
          go_wp2_with (first
            | (go_at_call 36; refine HC.out.mono ?_; rw [HD.out]; rintro e w2 ⟨rfl, hb2⟩)
            | fail)
          go_roundw
          case rel =>
            refine ⟨j + 1, by omega, by go_num, Lib.hid (fun i hi => ?_), Lib.hid (HB0.out.trans ((HB2.out.trans (hb2.mono HB2.out.size)).mono HB0.out.size))⟩
            rcases Nat.lt_or_ge i j with h1 | h1
            · exact HS.out i h1
            · obtain rfl : i = j := by omega
              rw [HP.out, HP'.out, HE.out]
          case measure => simp [intOf]; omega
        · have HD := Lib.hid (decide_eq_false he)
          have HE := Lib.hid (show decide (ps = ps') = false by
            rw [decide_eq_false_iff_not]
            rintro rfl
            have h1 := HP.out
            rw [HP'.out] at h1
            injection h1 with h1
            exact he h1.symm)
          clear he
          go_wp2_with (first
            | (go_at_call 36; refine HC.out.mono ?_; rw [HD.out]; rintro e w2 ⟨rfl, hb2⟩)
            | fail)
          go_ret
          exact ⟨ret_bool HE.out.symm, HB0.out.trans ((HB2.out.trans (hb2.mono HB2.out.size)).mono HB0.out.size)⟩
      · have HE := Lib.hid (show decide (ps = ps') = true by
          rw [decide_eq_true_iff]
          apply List.ext_getElem?
          intro i
          rcases Nat.lt_or_ge i n with h1 | h1
          · exact HS.out i (by omega)
          · rw [List.getElem?_eq_none (by have := HL.out; omega), List.getElem?_eq_none (by have := HL'.out; omega)])
        go_wp2_with fail
        go_ret
        exact ⟨ret_bool HE.out.symm, HB0.out⟩
  · have HE := Lib.hid (show decide (ps = ps') = false by rw [decide_eq_false_iff_not]; rintro rfl; omega)
    have hd : ((n : Int) == (n' : Int)) = false := by simp; omega
    have hd2 : ((n : Int) != (n' : Int)) = true := by simp; omega
    clear h h' hl hl' hne
    go_enter Tryz.func35, Tryz.ntmps35
    go_wp2_with fail
    go_ret
    exact ⟨ret_bool HE.out.symm, Below.refl _ _⟩
set_option maxHeartbeats 2000000 in
set_option maxRecDepth 100000 in
theorem same10 (w : World) {a a' : MA} {m m' : Mc} {B B' : Nat} (hM : m.Ok) (hM' : m'.Ok) (h : RdM w B a m) (h' : RdM w B' a' m') :
    Calls Tryz.prog 11 #[machV a m, machV a' m'] w fun e w' => e = .returned (.bool (decide (m = m'))) ∧ Below w.heap.size w w' := by
  obtain ⟨⟨A0, Ac0, A1, Ac1, A2, Ac2, A3, Ac3⟩, At, Act⟩ := a
  obtain ⟨⟨D0, Dc0, D1, Dc1, D2, Dc2, D3, Dc3⟩, Dt, Dct⟩ := a'
  have b0 : Below w.heap.size w ((w.alloc (.cells #[.slice A0 m.o.reg.length Ac0, .slice A1 m.o.q.length Ac1, .slice A2 m.o.lk.length Ac2, .slice A3 m.o.mp.length Ac3, .slice At m.t.length Act] 37)).alloc (.cells #[.slice D0 m'.o.reg.length Dc0, .slice D1 m'.o.q.length Dc1, .slice D2 m'.o.lk.length Dc2, .slice D3 m'.o.mp.length Dc3, .slice Dt m'.t.length Dct] 37)) := ((Below.refl _ _).alloc (Nat.le_refl _) _).alloc (by simp) _
  have HB := Lib.hid b0
  have H := Lib.hid (h.fit.below b0)
  have H' := Lib.hid (h'.fit.below b0)
  have HK := Lib.hid ((Blk.new w 37 #[.slice A0 m.o.reg.length Ac0, .slice A1 m.o.q.length Ac1, .slice A2 m.o.lk.length Ac2, .slice A3 m.o.mp.length Ac3, .slice At m.t.length Act]).alloc (.cells #[.slice D0 m'.o.reg.length Dc0, .slice D1 m'.o.q.length Dc1, .slice D2 m'.o.lk.length Dc2, .slice D3 m'.o.mp.length Dc3, .slice Dt m'.t.length Dct] 37))
  have HK' := Lib.hid (Blk.new (w.alloc (.cells #[.slice A0 m.o.reg.length Ac0, .slice A1 m.o.q.length Ac1, .slice A2 m.o.lk.length Ac2, .slice A3 m.o.mp.length Ac3, .slice At m.t.length Act] 37)) 37 #[.slice D0 m'.o.reg.length Dc0, .slice D1 m'.o.q.length Dc1, .slice D2 m'.o.lk.length Dc2, .slice D3 m'.o.mp.length Dc3, .slice Dt m'.t.length Dct])
  rw [World.size_alloc] at HK'
  have ht8 := hM.t8
  have ht8' := hM'.t8
  have HM := Lib.hid hM
  have HM' := Lib.hid hM'
  clear h h' b0 hM hM'
  rw [Mc.same_eq]
  unfold machV machC
  simp only
  obtain ⟨S, hS⟩ : ∃ S, m.o.same m'.o = S := ⟨_, rfl⟩
  obtain ⟨T, hT⟩ : ∃ T, decide (m.t = m'.t) = T := ⟨_, rfl⟩
  have C1 := Lib.hid (fun w (h : RdO w w.heap.size ⟨A0, Ac0, A1, Ac1, A2, Ac2, A3, Ac3⟩ m.o) (h' : RdO w w.heap.size ⟨D0, Dc0, D1, Dc1, D2, Dc2, D3, Dc3⟩ m'.o) => same8 w HM.out.o HM'.out.o h h')
  have C2 := Lib.hid (fun w (h : RdL w w.heap.size At m.t.length m.t) (h' : RdL w w.heap.size Dt m'.t.length m'.t) => equalL_any w (c := Act) (c' := Dct) (by omega) (by omega) HM.out.t.bytes HM'.out.t.bytes h h')
  rw [hS] at C1 ⊢
  rw [hT] at C2 ⊢
  clear hS hT
  go_enter Tryz.func11, Tryz.ntmps11
  go_upto_region 1 with fail
  generalize (w.alloc (.cells #[.slice A0 m.o.reg.length Ac0, .slice A1 m.o.q.length Ac1, .slice A2 m.o.lk.length Ac2, .slice A3 m.o.mp.length Ac3, .slice At m.t.length Act] 37)).alloc (.cells #[.slice D0 m'.o.reg.length Dc0, .slice D1 m'.o.q.length Dc1, .slice D2 m'.o.lk.length Dc2, .slice D3 m'.o.mp.length Dc3, .slice Dt m'.t.length Dct] 37) = wa at HB H H' HK HK' ⊢
  obtain ⟨x0, x1, x2, x3, x4⟩ := five HK.out
  obtain ⟨y0, y1, y2, y3, y4⟩ := five HK'.out
  cases S with
  | true =>
    go_wp2_with (first
      | (go_at_call 34; refine (C1.out wa H.out.o.fit H'.out.o.fit).mono ?_; rintro en w1 ⟨rfl, hb1⟩; have HB1 := Lib.hid hb1; clear hb1 x0 x1 x2 x3 x4 y0 y1 y2 y3 y4; obtain ⟨x0, x1, x2, x3, x4⟩ := five (HK.out.below HB1.out); obtain ⟨y0, y1, y2, y3, y4⟩ := five (HK'.out.below HB1.out))
      | (go_at_call 35; refine (C2.out w1 (H.out.fit.below HB1.out).t.fit (H'.out.fit.below HB1.out).t.fit).mono ?_; rintro en w2 ⟨rfl, hb2⟩; have HB2 := Lib.hid hb2; clear hb2)
      | fail)
    go_ret
    exact ⟨by simp, HB.out.trans ((HB1.out.trans (HB2.out.mono HB1.out.size)).mono HB.out.size)⟩
  | false =>
    go_wp2_with (first
      | (go_at_call 34; refine (C1.out wa H.out.o.fit H'.out.o.fit).mono ?_; rintro en w1 ⟨rfl, hb1⟩; have HB1 := Lib.hid hb1; clear hb1)
      | fail)
    go_ret
    exact ⟨by simp, HB.out.trans (HB1.out.mono HB.out.size)⟩
theorem Cm.eq_iff (a b : Cm) : a = b ↔ a.kind = b.kind ∧ a.who = b.who ∧ a.key = b.key ∧ a.val = b.val ∧ a.old = b.old := by
  constructor
  · rintro rfl; exact ⟨rfl, rfl, rfl, rfl, rfl⟩
  · rintro ⟨h1, h2, h3, h4, h5⟩; cases a; cases b; simp at h1 h2 h3 h4 h5; subst h1 h2 h3 h4 h5; rfl
instance : DecidableEq Cm := fun a b => decidable_of_iff _ (Cm.eq_iff a b).symm
set_option maxHeartbeats 2000000 in
set_option maxRecDepth 100000 in
theorem sameCmd_any (w : World) {a a' : CA} {e e' : Cm} {B B' : Nat} (hc : e.Fits) (hc' : e'.Fits) (h : RdC w B a e) (h' : RdC w B' a' e') :
    Calls Tryz.prog 77 #[cmdV a e, cmdV a' e'] w fun en w' => en = .returned (.bool (decide (e = e'))) ∧ Below w.heap.size w w' := by
  have b0 : Below w.heap.size w ((w.alloc (.cells #[.int .i64 e.kind, .int .i64 e.who, .slice a.Ak e.key.length a.ck, .slice a.Av e.val.length a.cv, .slice a.Ao e.old.length a.co] 26)).alloc (.cells #[.int .i64 e'.kind, .int .i64 e'.who, .slice a'.Ak e'.key.length a'.ck, .slice a'.Av e'.val.length a'.cv, .slice a'.Ao e'.old.length a'.co] 26)) := ((Below.refl _ _).alloc (Nat.le_refl _) _).alloc (by simp) _
  have HB := Lib.hid b0
  have HK := Lib.hid ((Blk.new w 26 #[.int .i64 e.kind, .int .i64 e.who, .slice a.Ak e.key.length a.ck, .slice a.Av e.val.length a.cv, .slice a.Ao e.old.length a.co]).alloc (.cells #[.int .i64 e'.kind, .int .i64 e'.who, .slice a'.Ak e'.key.length a'.ck, .slice a'.Av e'.val.length a'.cv, .slice a'.Ao e'.old.length a'.co] 26))
  have HK' := Lib.hid (Blk.new (w.alloc (.cells #[.int .i64 e.kind, .int .i64 e.who, .slice a.Ak e.key.length a.ck, .slice a.Av e.val.length a.cv, .slice a.Ao e.old.length a.co] 26)) 26 #[.int .i64 e'.kind, .int .i64 e'.who, .slice a'.Ak e'.key.length a'.ck, .slice a'.Av e'.val.length a'.cv, .slice a'.Ao e'.old.length a'.co])
  rw [World.size_alloc] at HK'
  have r := h.fit.below b0
  have r' := h'.fit.below b0
  have l1 := hc.key.1
  have l2 := hc.val.1
  have l3 := hc.old.1
  have m1 := hc'.key.1
  have m2 := hc'.val.1
  have m3 := hc'.old.1
  have E3 := Lib.hid (equal_any _ _ _ _ a.ck _ a'.ck _ _ _ _ (hc.key.2) (hc'.key.2) r.rk r'.rk)
  have E4 := Lib.hid (equal_any _ _ _ _ a.cv _ a'.cv _ _ _ _ (hc.val.2) (hc'.val.2) r.rv r'.rv)
  have E5 := Lib.hid (equal_any _ _ _ _ a.co _ a'.co _ _ _ _ (hc.old.2) (hc'.old.2) r.ro r'.ro)
  clear r r' l1 l2 l3 m1 m2 m3
  obtain ⟨D1, d1⟩ : ∃ D : Bool, decide (e.kind = e'.kind) = D := ⟨_, rfl⟩
  obtain ⟨D2, d2⟩ : ∃ D : Bool, decide (e.who = e'.who) = D := ⟨_, rfl⟩
  obtain ⟨D3, d3⟩ : ∃ D : Bool, decide (e.key = e'.key) = D := ⟨_, rfl⟩
  obtain ⟨D4, d4⟩ : ∃ D : Bool, decide (e.val = e'.val) = D := ⟨_, rfl⟩
  obtain ⟨D5, d5⟩ : ∃ D : Bool, decide (e.old = e'.old) = D := ⟨_, rfl⟩
  have HD : Hid (decide (e = e') = (D1 && (D2 && (D3 && (D4 && D5))))) := Lib.hid (by
    rw [← d1, ← d2, ← d3, ← d4, ← d5, Bool.eq_iff_iff]
    simp only [decide_eq_true_eq, Bool.and_eq_true, Cm.eq_iff])
  have r1 : (e.kind == e'.kind) = D1 := by rw [← d1, Bool.eq_iff_iff]; simp
  have r2 : (e.who == e'.who) = D2 := by rw [← d2, Bool.eq_iff_iff]; simp
  rw [HD.out]
  rw [d3] at E3
  rw [d4] at E4
  rw [d5] at E5
  clear d1 d2 d3 d4 d5 HD h h' b0 hc hc'
  unfold cmdV cmdC
  cases D1 with
  | false =>
    go_enter Tryz.func77, Tryz.ntmps77
    go_upto_region 1 with fail
    generalize (w.alloc (.cells #[.int .i64 e.kind, .int .i64 e.who, .slice a.Ak e.key.length a.ck, .slice a.Av e.val.length a.cv, .slice a.Ao e.old.length a.co] 26)).alloc (.cells #[.int .i64 e'.kind, .int .i64 e'.who, .slice a'.Ak e'.key.length a'.ck, .slice a'.Av e'.val.length a'.cv, .slice a'.Ao e'.old.length a'.co] 26) = wa at HB HK HK' E3 E4 E5 ⊢
    obtain ⟨x0, x1, x2, x3, x4⟩ := five HK.out
    obtain ⟨y0, y1, y2, y3, y4⟩ := five HK'.out
    go_wp2_with (first
      | (go_at_call 102; refine E3.out.mono ?_; rintro en w1 ⟨rfl, rfl⟩; clear E3)
      | (go_at_call 102; refine E4.out.mono ?_; rintro en w1 ⟨rfl, rfl⟩; clear E4)
      | (go_at_call 102; refine E5.out.mono ?_; rintro en w1 ⟨rfl, rfl⟩; clear E5)
      | fail)
    go_ret
    exact ⟨rfl, HB.out⟩
  | true =>
  cases D2 with
  | false =>
    go_enter Tryz.func77, Tryz.ntmps77
    go_upto_region 1 with fail
    generalize (w.alloc (.cells #[.int .i64 e.kind, .int .i64 e.who, .slice a.Ak e.key.length a.ck, .slice a.Av e.val.length a.cv, .slice a.Ao e.old.length a.co] 26)).alloc (.cells #[.int .i64 e'.kind, .int .i64 e'.who, .slice a'.Ak e'.key.length a'.ck, .slice a'.Av e'.val.length a'.cv, .slice a'.Ao e'.old.length a'.co] 26) = wa at HB HK HK' E3 E4 E5 ⊢
    obtain ⟨x0, x1, x2, x3, x4⟩ := five HK.out
    obtain ⟨y0, y1, y2, y3, y4⟩ := five HK'.out
    go_wp2_with (first
      | (go_at_call 102; refine E3.out.mono ?_; rintro en w1 ⟨rfl, rfl⟩; clear E3)
      | (go_at_call 102; refine E4.out.mono ?_; rintro en w1 ⟨rfl, rfl⟩; clear E4)
      | (go_at_call 102; refine E5.out.mono ?_; rintro en w1 ⟨rfl, rfl⟩; clear E5)
      | fail)
    go_ret
    exact ⟨rfl, HB.out⟩
  | true =>
  cases D3 with
  | false =>
    go_enter Tryz.func77, Tryz.ntmps77
    go_upto_region 1 with fail
    generalize (w.alloc (.cells #[.int .i64 e.kind, .int .i64 e.who, .slice a.Ak e.key.length a.ck, .slice a.Av e.val.length a.cv, .slice a.Ao e.old.length a.co] 26)).alloc (.cells #[.int .i64 e'.kind, .int .i64 e'.who, .slice a'.Ak e'.key.length a'.ck, .slice a'.Av e'.val.length a'.cv, .slice a'.Ao e'.old.length a'.co] 26) = wa at HB HK HK' E3 E4 E5 ⊢
    obtain ⟨x0, x1, x2, x3, x4⟩ := five HK.out
    obtain ⟨y0, y1, y2, y3, y4⟩ := five HK'.out
    go_wp2_with (first
      | (go_at_call 102; refine E3.out.mono ?_; rintro en w1 ⟨rfl, rfl⟩; clear E3)
      | (go_at_call 102; refine E4.out.mono ?_; rintro en w1 ⟨rfl, rfl⟩; clear E4)
      | (go_at_call 102; refine E5.out.mono ?_; rintro en w1 ⟨rfl, rfl⟩; clear E5)
      | fail)
    go_ret
    exact ⟨rfl, HB.out⟩
  | true =>
  cases D4 with
  | false =>
    go_enter Tryz.func77, Tryz.ntmps77
    go_upto_region 1 with fail
    generalize (w.alloc (.cells #[.int .i64 e.kind, .int .i64 e.who, .slice a.Ak e.key.length a.ck, .slice a.Av e.val.length a.cv, .slice a.Ao e.old.length a.co] 26)).alloc (.cells #[.int .i64 e'.kind, .int .i64 e'.who, .slice a'.Ak e'.key.length a'.ck, .slice a'.Av e'.val.length a'.cv, .slice a'.Ao e'.old.length a'.co] 26) = wa at HB HK HK' E3 E4 E5 ⊢
    obtain ⟨x0, x1, x2, x3, x4⟩ := five HK.out
    obtain ⟨y0, y1, y2, y3, y4⟩ := five HK'.out
    go_wp2_with (first
      | (go_at_call 102; refine E3.out.mono ?_; rintro en w1 ⟨rfl, rfl⟩; clear E3)
      | (go_at_call 102; refine E4.out.mono ?_; rintro en w1 ⟨rfl, rfl⟩; clear E4)
      | (go_at_call 102; refine E5.out.mono ?_; rintro en w1 ⟨rfl, rfl⟩; clear E5)
      | fail)
    go_ret
    exact ⟨rfl, HB.out⟩
  | true =>
  cases D5 with
  | false =>
    go_enter Tryz.func77, Tryz.ntmps77
    go_upto_region 1 with fail
    generalize (w.alloc (.cells #[.int .i64 e.kind, .int .i64 e.who, .slice a.Ak e.key.length a.ck, .slice a.Av e.val.length a.cv, .slice a.Ao e.old.length a.co] 26)).alloc (.cells #[.int .i64 e'.kind, .int .i64 e'.who, .slice a'.Ak e'.key.length a'.ck, .slice a'.Av e'.val.length a'.cv, .slice a'.Ao e'.old.length a'.co] 26) = wa at HB HK HK' E3 E4 E5 ⊢
    obtain ⟨x0, x1, x2, x3, x4⟩ := five HK.out
    obtain ⟨y0, y1, y2, y3, y4⟩ := five HK'.out
    go_wp2_with (first
      | (go_at_call 102; refine E3.out.mono ?_; rintro en w1 ⟨rfl, rfl⟩; clear E3)
      | (go_at_call 102; refine E4.out.mono ?_; rintro en w1 ⟨rfl, rfl⟩; clear E4)
      | (go_at_call 102; refine E5.out.mono ?_; rintro en w1 ⟨rfl, rfl⟩; clear E5)
      | fail)
    go_ret
    exact ⟨rfl, HB.out⟩
  | true =>
    go_enter Tryz.func77, Tryz.ntmps77
    go_upto_region 1 with fail
    generalize (w.alloc (.cells #[.int .i64 e.kind, .int .i64 e.who, .slice a.Ak e.key.length a.ck, .slice a.Av e.val.length a.cv, .slice a.Ao e.old.length a.co] 26)).alloc (.cells #[.int .i64 e'.kind, .int .i64 e'.who, .slice a'.Ak e'.key.length a'.ck, .slice a'.Av e'.val.length a'.cv, .slice a'.Ao e'.old.length a'.co] 26) = wa at HB HK HK' E3 E4 E5 ⊢
    obtain ⟨x0, x1, x2, x3, x4⟩ := five HK.out
    obtain ⟨y0, y1, y2, y3, y4⟩ := five HK'.out
    go_wp2_with (first
      | (go_at_call 102; refine E3.out.mono ?_; rintro en w1 ⟨rfl, rfl⟩; clear E3)
      | (go_at_call 102; refine E4.out.mono ?_; rintro en w1 ⟨rfl, rfl⟩; clear E4)
      | (go_at_call 102; refine E5.out.mono ?_; rintro en w1 ⟨rfl, rfl⟩; clear E5)
      | fail)
    go_ret
    exact ⟨rfl, HB.out⟩
set_option maxHeartbeats 2000000 in
set_option maxRecDepth 100000 in
theorem sameE10 : SameEC10 := by
  intro w a a' e e' B B' hc hc' h h'
  have b0 : Below w.heap.size w ((w.alloc (.cells #[.int .i64 e.s, .int .i64 e.q, .int .i64 e.c.kind, .int .i64 e.c.who, .slice a.Ak e.c.key.length a.ck, .slice a.Av e.c.val.length a.cv, .slice a.Ao e.c.old.length a.co] 28)).alloc (.cells #[.int .i64 e'.s, .int .i64 e'.q, .int .i64 e'.c.kind, .int .i64 e'.c.who, .slice a'.Ak e'.c.key.length a'.ck, .slice a'.Av e'.c.val.length a'.cv, .slice a'.Ao e'.c.old.length a'.co] 28)) := ((Below.refl _ _).alloc (Nat.le_refl _) _).alloc (by simp) _
  have HB := Lib.hid b0
  have HK := Lib.hid ((Blk.new w 28 #[.int .i64 e.s, .int .i64 e.q, .int .i64 e.c.kind, .int .i64 e.c.who, .slice a.Ak e.c.key.length a.ck, .slice a.Av e.c.val.length a.cv, .slice a.Ao e.c.old.length a.co]).alloc (.cells #[.int .i64 e'.s, .int .i64 e'.q, .int .i64 e'.c.kind, .int .i64 e'.c.who, .slice a'.Ak e'.c.key.length a'.ck, .slice a'.Av e'.c.val.length a'.cv, .slice a'.Ao e'.c.old.length a'.co] 28))
  have HK' := Lib.hid (Blk.new (w.alloc (.cells #[.int .i64 e.s, .int .i64 e.q, .int .i64 e.c.kind, .int .i64 e.c.who, .slice a.Ak e.c.key.length a.ck, .slice a.Av e.c.val.length a.cv, .slice a.Ao e.c.old.length a.co] 28)) 28 #[.int .i64 e'.s, .int .i64 e'.q, .int .i64 e'.c.kind, .int .i64 e'.c.who, .slice a'.Ak e'.c.key.length a'.ck, .slice a'.Av e'.c.val.length a'.cv, .slice a'.Ao e'.c.old.length a'.co])
  rw [World.size_alloc] at HK'
  have HC := Lib.hid (sameCmd_any _ hc hc' (h.fit.below b0) (h'.fit.below b0))
  obtain ⟨D1, d1⟩ : ∃ D : Bool, decide (e.s = e'.s) = D := ⟨_, rfl⟩
  obtain ⟨D2, d2⟩ : ∃ D : Bool, decide (e.q = e'.q) = D := ⟨_, rfl⟩
  obtain ⟨D3, d3⟩ : ∃ D : Bool, decide (e.c = e'.c) = D := ⟨_, rfl⟩
  have HD : Hid (decide (e = e') = (D1 && (D2 && D3))) := Lib.hid (by
    rw [← d1, ← d2, ← d3, Bool.eq_iff_iff]
    simp only [decide_eq_true_eq, Bool.and_eq_true, En.eq_iff, Cm.eq_iff])
  have r1 : (e.s == e'.s) = D1 := by rw [← d1, Bool.eq_iff_iff]; simp
  have r2 : (e.q == e'.q) = D2 := by rw [← d2, Bool.eq_iff_iff]; simp
  rw [HD.out]
  rw [d3] at HC
  clear d1 d2 d3 HD h h' b0 hc hc'
  unfold entV entC
  unfold cmdV cmdC at HC
  cases D1 with
  | false =>
    go_enter Tryz.func29, Tryz.ntmps29
    go_upto_region 1 with fail
    generalize (w.alloc (.cells #[.int .i64 e.s, .int .i64 e.q, .int .i64 e.c.kind, .int .i64 e.c.who, .slice a.Ak e.c.key.length a.ck, .slice a.Av e.c.val.length a.cv, .slice a.Ao e.c.old.length a.co] 28)).alloc (.cells #[.int .i64 e'.s, .int .i64 e'.q, .int .i64 e'.c.kind, .int .i64 e'.c.who, .slice a'.Ak e'.c.key.length a'.ck, .slice a'.Av e'.c.val.length a'.cv, .slice a'.Ao e'.c.old.length a'.co] 28) = wa at HB HK HK' HC ⊢
    obtain ⟨x0, x1, x2, x3, x4, x5, x6⟩ := seven HK.out
    obtain ⟨y0, y1, y2, y3, y4, y5, y6⟩ := seven HK'.out
    go_wp2_with (first
      | (go_at_call 77; refine HC.out.mono ?_; rintro en w1 ⟨rfl, hb1⟩)
      | fail)
    go_ret
    exact ⟨rfl, HB.out⟩
  | true =>
  cases D2 with
  | false =>
    go_enter Tryz.func29, Tryz.ntmps29
    go_upto_region 1 with fail
    generalize (w.alloc (.cells #[.int .i64 e.s, .int .i64 e.q, .int .i64 e.c.kind, .int .i64 e.c.who, .slice a.Ak e.c.key.length a.ck, .slice a.Av e.c.val.length a.cv, .slice a.Ao e.c.old.length a.co] 28)).alloc (.cells #[.int .i64 e'.s, .int .i64 e'.q, .int .i64 e'.c.kind, .int .i64 e'.c.who, .slice a'.Ak e'.c.key.length a'.ck, .slice a'.Av e'.c.val.length a'.cv, .slice a'.Ao e'.c.old.length a'.co] 28) = wa at HB HK HK' HC ⊢
    obtain ⟨x0, x1, x2, x3, x4, x5, x6⟩ := seven HK.out
    obtain ⟨y0, y1, y2, y3, y4, y5, y6⟩ := seven HK'.out
    go_wp2_with (first
      | (go_at_call 77; refine HC.out.mono ?_; rintro en w1 ⟨rfl, hb1⟩)
      | fail)
    go_ret
    exact ⟨rfl, HB.out⟩
  | true =>
    go_enter Tryz.func29, Tryz.ntmps29
    go_upto_region 1 with fail
    generalize (w.alloc (.cells #[.int .i64 e.s, .int .i64 e.q, .int .i64 e.c.kind, .int .i64 e.c.who, .slice a.Ak e.c.key.length a.ck, .slice a.Av e.c.val.length a.cv, .slice a.Ao e.c.old.length a.co] 28)).alloc (.cells #[.int .i64 e'.s, .int .i64 e'.q, .int .i64 e'.c.kind, .int .i64 e'.c.who, .slice a'.Ak e'.c.key.length a'.ck, .slice a'.Av e'.c.val.length a'.cv, .slice a'.Ao e'.c.old.length a'.co] 28) = wa at HB HK HK' HC ⊢
    obtain ⟨x0, x1, x2, x3, x4, x5, x6⟩ := seven HK.out
    obtain ⟨y0, y1, y2, y3, y4, y5, y6⟩ := seven HK'.out
    go_wp2_with (first
      | (go_at_call 77; refine HC.out.mono ?_; rintro en w1 ⟨rfl, hb1⟩)
      | fail)
    go_ret
    exact ⟨rfl, HB.out.trans (hb1.mono HB.out.size)⟩
end Go.Proofs.YthfnnieklkaefaaGreat

namespace Go.Proofs.YthfnnieklkaefaaGreat
open Go.RowKit
set_option linter.unusedVariables false
theorem sameM10 : SameC10 := fun w _ _ _ _ _ _ h1 h2 h3 h4 => same10 w h1 h2 h3 h4
theorem awake10 : AwakeC10 := machAwake step10 encode10 decode10 sameM10 sameE10
end Go.Proofs.YthfnnieklkaefaaGreat

namespace Go.Proofs.YthfnnieklkaefaaGreat
open Go.RowKit
set_option linter.unusedVariables false
theorem machOnce_walk (a0 : Option Addr) (len0 cap0 : Nat) (z0 : List Int) (a1 a2 : Int) (w : World) (w0 : IsRow .i64 w a0 len0 cap0 z0) (w1 : (Lit.int .i64 a1).wf = true) (w2 : (Lit.int .i64 a2).wf = true) :
    Calls Tryz.prog 3 #[.slice a0 len0 cap0, .int .i64 a1, .int .i64 a2] w fun e w' => e = .returned (.bool true) ∧ Below w.heap.size w w' := by
  have h := w0.ints
  exact machOnce_core step10 sameM10 awake10 a1 a2 (Nat.le_trans h.2.2.1 h.2.2.2) w h.1
end Go.Proofs.YthfnnieklkaefaaGreat

