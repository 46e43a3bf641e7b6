/- BlobMath MachSameE -/
import Derived.Test.YtmekamgohonffaaBF13
import Derived.Test.YtmekamgohonffaaBF28
import Derived.Test.YtmekamgohonffaaBF33
namespace Go.Proofs.Ytmekamgohonffaa
set_option linter.unusedVariables false
/-- a state -/
structure Sb where
  pos : Int
  m : Mc
  rest : List En
def Sb.zero : Sb := ⟨0, Mc.zero, []⟩
def encE (es : List En) : List Nat := es.flatMap En.enc
theorem encE_snoc (es : List En) (e : En) : encE (es ++ [e]) = encE es ++ e.enc := by simp [encE]
def Sb.body (s : Sb) : List Nat := Pk.enc (Pk.held s.pos) ++ (Pk.encB s.m.enc ++ (encN s.rest.length ++ encE s.rest))
def Sb.enc (s : Sb) : List Nat := Fr.lay s.body
/-- k entries that are read -/
def getE : Nat → Pk.St → List En × Pk.St
  | 0, s => ([], s)
  | k + 1, s => (En.read s :: (getE k (En.get s).2).1, (getE k (En.get s).2).2)
theorem getE_enc : ∀ (es : List En) (rest : List Nat), (∀ e ∈ es, e.ok = true) → getE es.length (some (encE es ++ rest)) = (es, some rest)
  | [], rest, _ => rfl
  | e :: es, rest, h => by
    have h1 := h e (by simp)
    have ih := getE_enc es rest (fun x hx => h x (List.mem_cons_of_mem _ hx))
    have e1 : encE (e :: es) ++ rest = e.enc ++ (encE es ++ rest) := by simp [encE]
    simp only [List.length_cons, getE]
    rw [e1, En.get_enc h1, En.read_enc h1]
    simp only [ih]
namespace Sb
def st0 (l : List Nat) : Pk.St := some ((Fr.unf l).getD [])
def pos0 (l : List Nat) : Nat := Pk.numV (st0 l) 1099511627776
def st1 (l : List Nat) : Pk.St := Pk.numS (st0 l) 1099511627776
def mb (l : List Nat) : List Nat := Pk.bytV (st1 l) 1073741824
def st2 (l : List Nat) : Pk.St := Pk.bytS (st1 l) 1073741824
def n0 (l : List Nat) : Nat := Pk.numV (st2 l) 64
def st3 (l : List Nat) : Pk.St := Pk.numS (st2 l) 64
def es0 (l : List Nat) : List En × Pk.St := getE (n0 l) (st3 l)
def good (l : List Nat) : Bool := (Fr.unf l).isSome && ((Mc.dec (mb l)).isSome && (decide ((es0 l).2 = some []) && decide ((pos0 l : Int) ≤ 549755813888 - (n0 l : Int))))
/-- the state of bytes, or none -/
def dec (l : List Nat) : Option Sb := if good l = true then some ⟨pos0 l, (Mc.dec (mb l)).getD Mc.zero, (es0 l).1⟩ else none
end Sb
theorem Sb.n0_le (l : List Nat) : Sb.n0 l ≤ 64 := by
  have := numV_le (Sb.st2 l) (m := 64) (by decide)
  unfold Sb.n0; omega
structure Sb.Ok (s : Sb) : Prop where
  p0 : 0 ≤ s.pos
  m : s.m.Ok
  n : s.rest.length ≤ 64
  p1 : s.pos + s.rest.length ≤ 549755813888
  e : ∀ e ∈ s.rest, e.ok = true
theorem Sb.body_parts {s : Sb} (h : s.Ok) (hlen : s.m.enc.length ≤ 1073741824) {l : List Nat} (hu : Fr.unf l = some s.body) :
    Sb.pos0 l = s.pos.toNat ∧ Sb.mb l = s.m.enc ∧ Sb.n0 l = s.rest.length ∧ Sb.es0 l = (s.rest, some []) := by
  have k0 := num_of_encI (z := s.pos) (m := 1099511627776) (rest := Pk.encB s.m.enc ++ (encN s.rest.length ++ encE s.rest)) h.p0 (by have := h.p1; omega) (by omega)
  have k1 : Pk.bytV (some (Pk.encB s.m.enc ++ (encN s.rest.length ++ encE s.rest))) 1073741824 = s.m.enc ∧ Pk.bytS (some (Pk.encB s.m.enc ++ (encN s.rest.length ++ encE s.rest))) 1073741824 = some (encN s.rest.length ++ encE s.rest) :=
    Pk.bytV_is (Pk.bytN_enc _ _ _ (by unfold Pk.top; omega) (by unfold Pk.held Pk.top; omega))
  have k2 := num_of_encN (n := s.rest.length) (m := 64) (rest := encE s.rest) (by have := h.n; omega) (by omega)
  have k3 := getE_enc s.rest [] h.e
  rw [List.append_nil] at k3
  have e0 : Sb.st0 l = some (Pk.enc (Pk.held s.pos) ++ (Pk.encB s.m.enc ++ (encN s.rest.length ++ encE s.rest))) := by unfold Sb.st0; rw [hu]; rfl
  have e1 : Sb.st1 l = some (Pk.encB s.m.enc ++ (encN s.rest.length ++ encE s.rest)) := by unfold Sb.st1; rw [e0, k0.2]
  have e2 : Sb.st2 l = some (encN s.rest.length ++ encE s.rest) := by unfold Sb.st2; rw [e1, k1.2]
  have e3 : Sb.n0 l = s.rest.length := by unfold Sb.n0; rw [e2, k2.1]
  have e4 : Sb.st3 l = some (encE s.rest) := by unfold Sb.st3; rw [e2, k2.2]
  refine ⟨?_, by unfold Sb.mb; rw [e1, k1.1], e3, by unfold Sb.es0; rw [e3, e4, k3]⟩
  unfold Sb.pos0
  rw [e0]
  have := k0.1
  omega
/-- a state is what it was, from its bytes -/
theorem Sb.dec_enc {s : Sb} (h : s.Ok) (hlen : s.m.enc.length ≤ 1073741824) : Sb.dec s.enc = some s := by
  have hu : Fr.unf s.enc = some s.body := Fr.unf_lay _
  obtain ⟨h1, h2, h3, h4⟩ := Sb.body_parts h hlen hu
  have hg : Sb.good s.enc = true := by
    unfold Sb.good
    rw [hu, h2, Mc.dec_enc h.m, h4, h1, h3]
    have := h.p0; have := h.p1
    simp
    omega
  unfold Sb.dec
  rw [if_pos hg, h1, h2, Mc.dec_enc h.m, h4]
  rcases s with ⟨p, m, r⟩
  have := h.p0
  simp only at this ⊢
  congr 2
  simp only [Int.toNat_of_nonneg this]
end Go.Proofs.Ytmekamgohonffaa

namespace Go.Proofs.Ytmekamgohonffaa
open Go.RowKit
set_option linter.unusedVariables false
theorem Mc.same_eq (m m' : Mc) : decide (m = m') = (m.o.same m'.o && decide (m.t = m'.t)) := by
  rw [Bool.eq_iff_iff, decide_eq_true_iff, Mc.eq_iff]
  unfold Ob.same
  simp [and_assoc]
set_option maxHeartbeats 2000000 in
set_option maxRecDepth 100000 in
theorem refSame_any (w : World) {a a' : MA} {m m' : Mc} {B B' : Nat} (hM : m.Ok) (hM' : m'.Ok) (h : RdM w B a m) (h' : RdM w B' a' m') :
    Calls Try.prog 54 #[machV a m, machV a' m'] w fun e w' => e = .returned (.bool (decide (m = m'))) ∧ Below w.heap.size w w' := by
  obtain ⟨⟨A0, Ac0, A1, Ac1, A2, Ac2, A3, Ac3⟩, At, Act⟩ := a
  obtain ⟨⟨D0, Dc0, D1, Dc1, D2, Dc2, D3, Dc3⟩, Dt, Dct⟩ := a'
  have b0 : Below w.heap.size w ((w.alloc (.cells #[.slice A0 m.o.reg.length Ac0, .slice A1 m.o.q.length Ac1, .slice A2 m.o.lk.length Ac2, .slice A3 m.o.mp.length Ac3, .slice At m.t.length Act] 35)).alloc (.cells #[.slice D0 m'.o.reg.length Dc0, .slice D1 m'.o.q.length Dc1, .slice D2 m'.o.lk.length Dc2, .slice D3 m'.o.mp.length Dc3, .slice Dt m'.t.length Dct] 35)) := ((Below.refl _ _).alloc (Nat.le_refl _) _).alloc (by simp) _
  have HB := Lib.hid b0
  have H := Lib.hid (h.fit.below b0)
  have H' := Lib.hid (h'.fit.below b0)
  have HK := Lib.hid ((Blk.new w 35 #[.slice A0 m.o.reg.length Ac0, .slice A1 m.o.q.length Ac1, .slice A2 m.o.lk.length Ac2, .slice A3 m.o.mp.length Ac3, .slice At m.t.length Act]).alloc (.cells #[.slice D0 m'.o.reg.length Dc0, .slice D1 m'.o.q.length Dc1, .slice D2 m'.o.lk.length Dc2, .slice D3 m'.o.mp.length Dc3, .slice Dt m'.t.length Dct] 35))
  have HK' := Lib.hid (Blk.new (w.alloc (.cells #[.slice A0 m.o.reg.length Ac0, .slice A1 m.o.q.length Ac1, .slice A2 m.o.lk.length Ac2, .slice A3 m.o.mp.length Ac3, .slice At m.t.length Act] 35)) 35 #[.slice D0 m'.o.reg.length Dc0, .slice D1 m'.o.q.length Dc1, .slice D2 m'.o.lk.length Dc2, .slice D3 m'.o.mp.length Dc3, .slice Dt m'.t.length Dct])
  rw [World.size_alloc] at HK'
  have ht8 := hM.t8
  have ht8' := hM'.t8
  have HM := Lib.hid hM
  have HM' := Lib.hid hM'
  clear h h' b0 hM hM'
  rw [Mc.same_eq]
  unfold machV machC
  simp only
  obtain ⟨S, hS⟩ : ∃ S, m.o.same m'.o = S := ⟨_, rfl⟩
  obtain ⟨T, hT⟩ : ∃ T, decide (m.t = m'.t) = T := ⟨_, rfl⟩
  have C1 := Lib.hid (fun w (h : RdO w w.heap.size ⟨A0, Ac0, A1, Ac1, A2, Ac2, A3, Ac3⟩ m.o) (h' : RdO w w.heap.size ⟨D0, Dc0, D1, Dc1, D2, Dc2, D3, Dc3⟩ m'.o) => sameO_any w HM.out.o HM'.out.o h h')
  have C2 := Lib.hid (fun w (h : RdL w w.heap.size At m.t.length m.t) (h' : RdL w w.heap.size Dt m'.t.length m'.t) => sameT_any w (c := Act) (c' := Dct) (by omega) (by omega) HM.out.t.bytes HM'.out.t.bytes h h')
  rw [hS] at C1 ⊢
  rw [hT] at C2 ⊢
  clear hS hT
  go_enter Try.func54, Try.ntmps54
  go_upto_region 1 with fail
  generalize (w.alloc (.cells #[.slice A0 m.o.reg.length Ac0, .slice A1 m.o.q.length Ac1, .slice A2 m.o.lk.length Ac2, .slice A3 m.o.mp.length Ac3, .slice At m.t.length Act] 35)).alloc (.cells #[.slice D0 m'.o.reg.length Dc0, .slice D1 m'.o.q.length Dc1, .slice D2 m'.o.lk.length Dc2, .slice D3 m'.o.mp.length Dc3, .slice Dt m'.t.length Dct] 35) = wa at HB H H' HK HK' ⊢
  obtain ⟨x0, x1, x2, x3, x4⟩ := five HK.out
  obtain ⟨y0, y1, y2, y3, y4⟩ := five HK'.out
  cases S with
  | true =>
    go_wp2_with (first
      | (go_at_call 63; refine (C1.out wa H.out.o.fit H'.out.o.fit).mono ?_; rintro en w1 ⟨rfl, hb1⟩; have HB1 := Lib.hid hb1; clear hb1 x0 x1 x2 x3 x4 y0 y1 y2 y3 y4; obtain ⟨x0, x1, x2, x3, x4⟩ := five (HK.out.below HB1.out); obtain ⟨y0, y1, y2, y3, y4⟩ := five (HK'.out.below HB1.out))
      | (go_at_call 64; refine (C2.out w1 (H.out.fit.below HB1.out).t.fit (H'.out.fit.below HB1.out).t.fit).mono ?_; rintro en w2 ⟨rfl, hb2⟩; have HB2 := Lib.hid hb2; clear hb2)
      | fail)
    go_ret
    exact ⟨by simp, HB.out.trans ((HB1.out.trans (HB2.out.mono HB1.out.size)).mono HB.out.size)⟩
  | false =>
    go_wp2_with (first
      | (go_at_call 63; refine (C1.out wa H.out.o.fit H'.out.o.fit).mono ?_; rintro en w1 ⟨rfl, hb1⟩; have HB1 := Lib.hid hb1; clear hb1)
      | fail)
    go_ret
    exact ⟨by simp, HB.out.trans (HB1.out.mono HB.out.size)⟩
set_option maxHeartbeats 8000000 in
set_option maxRecDepth 100000 in
theorem refSameEntry_any (w : World) {ca ca' : CA} {e e' : En} {B B' : Nat} (hc : e.c.Fits) (hc' : e'.c.Fits) (h : RdC w B ca e.c) (h' : RdC w B' ca' e'.c) :
    Calls Try.prog 65 #[entV ca e, entV ca' e'] w fun en w' => en = .returned (.bool (decide (e = e'))) ∧ Below w.heap.size w w' := by
  obtain ⟨Ak, Akc, Av, Avc, Ao, Aoc⟩ := ca
  obtain ⟨Dk, Dkc, Dv, Dvc, Do, Doc⟩ := ca'
  have b0 : Below w.heap.size w ((w.alloc (.cells #[.int .i64 e.s, .int .i64 e.q, .int .i64 e.c.kind, .int .i64 e.c.who, .slice Ak e.c.key.length Akc, .slice Av e.c.val.length Avc, .slice Ao e.c.old.length Aoc] 26)).alloc (.cells #[.int .i64 e'.s, .int .i64 e'.q, .int .i64 e'.c.kind, .int .i64 e'.c.who, .slice Dk e'.c.key.length Dkc, .slice Dv e'.c.val.length Dvc, .slice Do e'.c.old.length Doc] 26)) := ((Below.refl _ _).alloc (Nat.le_refl _) _).alloc (by simp) _
  have HB := Lib.hid b0
  have p1 := str_of (c := Akc) (h.rk.fit.below b0)
  have p2 := str_of (c := Dkc) (h'.rk.fit.below b0)
  have p3 := str_of (c := Avc) (h.rv.fit.below b0)
  have p4 := str_of (c := Dvc) (h'.rv.fit.below b0)
  have p5 := str_of (c := Aoc) (h.ro.fit.below b0)
  have p6 := str_of (c := Doc) (h'.ro.fit.below b0)
  have Q1 := Lib.hid (strL_eq hc.key.2 hc'.key.2)
  have Q2 := Lib.hid (strL_eq hc.val.2 hc'.val.2)
  have Q3 := Lib.hid (strL_eq hc.old.2 hc'.old.2)
  have HK := Lib.hid ((Blk.new w 26 #[.int .i64 e.s, .int .i64 e.q, .int .i64 e.c.kind, .int .i64 e.c.who, .slice Ak e.c.key.length Akc, .slice Av e.c.val.length Avc, .slice Ao e.c.old.length Aoc]).alloc (.cells #[.int .i64 e'.s, .int .i64 e'.q, .int .i64 e'.c.kind, .int .i64 e'.c.who, .slice Dk e'.c.key.length Dkc, .slice Dv e'.c.val.length Dvc, .slice Do e'.c.old.length Doc] 26))
  have HK' := Lib.hid (Blk.new (w.alloc (.cells #[.int .i64 e.s, .int .i64 e.q, .int .i64 e.c.kind, .int .i64 e.c.who, .slice Ak e.c.key.length Akc, .slice Av e.c.val.length Avc, .slice Ao e.c.old.length Aoc] 26)) 26 #[.int .i64 e'.s, .int .i64 e'.q, .int .i64 e'.c.kind, .int .i64 e'.c.who, .slice Dk e'.c.key.length Dkc, .slice Dv e'.c.val.length Dvc, .slice Do e'.c.old.length Doc])
  rw [World.size_alloc] at HK'
  clear h h' b0 hc hc'
  obtain ⟨D, hD⟩ : ∃ D, decide (e = e') = D := ⟨_, rfl⟩
  rw [hD]
  have hyes : e.s = e'.s → e.q = e'.q → e.c.kind = e'.c.kind → e.c.who = e'.c.who → e.c.key = e'.c.key → e.c.val = e'.c.val → e.c.old = e'.c.old → D = true := fun h1 h2 h3 h4 h5 h6 h7 => by rw [← hD]; exact decide_eq_true ((En.eq_iff _ _).2 ⟨h1, h2, h3, h4, h5, h6, h7⟩)
  have hno : e ≠ e' → D = false := fun h => by rw [← hD]; exact decide_eq_false h
  clear hD
  unfold entV entC
  simp only
  obtain ⟨es, eq, ⟨ekind, ewho, ekey, eval, eold⟩⟩ := e
  obtain ⟨fs, fq, ⟨fkind, fwho, fkey, fval, fold⟩⟩ := e'
  simp only at *
  obtain ⟨wa, hwa⟩ : ∃ x, (w.alloc (.cells #[.int .i64 es, .int .i64 eq, .int .i64 ekind, .int .i64 ewho, .slice Ak ekey.length Akc, .slice Av eval.length Avc, .slice Ao eold.length Aoc] 26)).alloc (.cells #[.int .i64 fs, .int .i64 fq, .int .i64 fkind, .int .i64 fwho, .slice Dk fkey.length Dkc, .slice Dv fval.length Dvc, .slice Do fold.length Doc] 26) = x := ⟨_, rfl⟩
  rw [hwa] at p1 p2 p3 p4 p5 p6 HB HK HK'
  obtain ⟨x0, x1, x2, x3, x4, x5, x6⟩ := seven HK.out
  obtain ⟨y0, y1, y2, y3, y4, y5, y6⟩ := seven HK'.out
  have HW := Lib.hid hwa
  have HYES := Lib.hid hyes
  have HNO := Lib.hid hno
  clear hwa hyes hno
  by_cases h0 : es = fs
  · have b0 : (es == fs) = true := by simpa using h0
    by_cases h1 : eq = fq
    · have b1 : (eq == fq) = true := by simpa using h1
      by_cases h2 : ekind = fkind
      · have b2 : (ekind == fkind) = true := by simpa using h2
        by_cases h3 : ewho = fwho
        · have b3 : (ewho == fwho) = true := by simpa using h3
          by_cases h4 : ekey = fkey
          · have b4 : ((strB ekey).toList == (strB fkey).toList) = true := by rw [Q1.out]; exact decide_eq_true h4
            have g4 : (strB ekey == strB fkey) = true := by rw [h4]; exact strB_self _
            by_cases h5 : eval = fval
            · have b5 : ((strB eval).toList == (strB fval).toList) = true := by rw [Q2.out]; exact decide_eq_true h5
              have g5 : (strB eval == strB fval) = true := by rw [h5]; exact strB_self _
              by_cases h6 : eold = fold
              · have b6 : ((strB eold).toList == (strB fold).toList) = true := by rw [Q3.out]; exact decide_eq_true h6
                have g6 : (strB eold == strB fold) = true := by rw [h6]; exact strB_self _
                have hd := HYES.out h0 h1 h2 h3 h4 h5 h6
                subst hd
                clear h0 h1 h2 h3 h4 h5 h6
                go_enter Try.func65, Try.ntmps65
                go_upto_region 1 with fail
                rw [HW.out]
                go_wp2_with fail
                go_ret
                exact ⟨rfl, HB.out⟩
              · have hd := HNO.out (fun h => h6 ((En.eq_iff _ _).1 h).2.2.2.2.2.2)
                subst hd
                have b6 : ((strB eold).toList == (strB fold).toList) = false := by rw [Q3.out]; exact decide_eq_false h6
                have g6 : (strB eold == strB fold) = false := by rw [← Bool.not_eq_true]; intro h; rw [ba_beq, decide_eq_true_iff] at h; rw [h] at b6; simp at b6
                clear h0 h1 h2 h3 h4 h5 h6
                go_enter Try.func65, Try.ntmps65
                go_upto_region 1 with fail
                rw [HW.out]
                go_wp2_with fail
                go_ret
                exact ⟨rfl, HB.out⟩
            · have hd := HNO.out (fun h => h5 ((En.eq_iff _ _).1 h).2.2.2.2.2.1)
              subst hd
              have b5 : ((strB eval).toList == (strB fval).toList) = false := by rw [Q2.out]; exact decide_eq_false h5
              have g5 : (strB eval == strB fval) = false := by rw [← Bool.not_eq_true]; intro h; rw [ba_beq, decide_eq_true_iff] at h; rw [h] at b5; simp at b5
              clear h0 h1 h2 h3 h4 h5
              go_enter Try.func65, Try.ntmps65
              go_upto_region 1 with fail
              rw [HW.out]
              go_wp2_with fail
              go_ret
              exact ⟨rfl, HB.out⟩
          · have hd := HNO.out (fun h => h4 ((En.eq_iff _ _).1 h).2.2.2.2.1)
            subst hd
            have b4 : ((strB ekey).toList == (strB fkey).toList) = false := by rw [Q1.out]; exact decide_eq_false h4
            have g4 : (strB ekey == strB fkey) = false := by rw [← Bool.not_eq_true]; intro h; rw [ba_beq, decide_eq_true_iff] at h; rw [h] at b4; simp at b4
            clear h0 h1 h2 h3 h4
            go_enter Try.func65, Try.ntmps65
            go_upto_region 1 with fail
            rw [HW.out]
            go_wp2_with fail
            go_ret
            exact ⟨rfl, HB.out⟩
        · have hd := HNO.out (fun h => h3 ((En.eq_iff _ _).1 h).2.2.2.1)
          subst hd
          have b3 : (ewho == fwho) = false := by simpa using h3
          clear h0 h1 h2 h3
          go_enter Try.func65, Try.ntmps65
          go_upto_region 1 with fail
          rw [HW.out]
          go_wp2_with fail
          go_ret
          exact ⟨rfl, HB.out⟩
      · have hd := HNO.out (fun h => h2 ((En.eq_iff _ _).1 h).2.2.1)
        subst hd
        have b2 : (ekind == fkind) = false := by simpa using h2
        clear h0 h1 h2
        go_enter Try.func65, Try.ntmps65
        go_upto_region 1 with fail
        rw [HW.out]
        go_wp2_with fail
        go_ret
        exact ⟨rfl, HB.out⟩
    · have hd := HNO.out (fun h => h1 ((En.eq_iff _ _).1 h).2.1)
      subst hd
      have b1 : (eq == fq) = false := by simpa using h1
      clear h0 h1
      go_enter Try.func65, Try.ntmps65
      go_upto_region 1 with fail
      rw [HW.out]
      go_wp2_with fail
      go_ret
      exact ⟨rfl, HB.out⟩
  · have hd := HNO.out (fun h => h0 ((En.eq_iff _ _).1 h).1)
    subst hd
    have b0 : (es == fs) = false := by simpa using h0
    clear h0
    go_enter Try.func65, Try.ntmps65
    go_upto_region 1 with fail
    rw [HW.out]
    go_wp2_with fail
    go_ret
    exact ⟨rfl, HB.out⟩
end Go.Proofs.Ytmekamgohonffaa

