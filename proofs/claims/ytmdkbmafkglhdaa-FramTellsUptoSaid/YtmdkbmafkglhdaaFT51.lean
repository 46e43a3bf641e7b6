/- Ref11DecK -/
import Derived.Test.YtmdkbmafkglhdaaFT37
import Derived.Test.YtmdkbmafkglhdaaFT50
namespace Go.Proofs.Ytmdkbmafkglhdaa
open Go.RowKit
set_option linter.unusedVariables false
/-- a message that is read into block g: the reader at b, the answer's variable at gr -/
structure DcSt (wb wx : World) (B b g gr : Nat) (cs : Array Value) (s : Pk.St) : Prop where
  r : RdSt wb wx B b s
  blk : Blk wx g 29 cs
  res : Blk wx gr 29 msgZ
  hb : b < wb.heap.size
  hg : wb.heap.size ≤ g
  hgr : gr < wb.heap.size
section
variable {wb wx wy : World} {B b g gr i : Nat} {cs : Array Value} {s s' : Pk.St} {u : Value}
theorem DcSt.step (h : DcSt wb wx B b g gr cs s) (hr : RefAt wy B b s') (ho : Only b wx wy) : DcSt wb wy B b g gr cs s' := by
  have hne : gr ≠ b := by
    obtain ⟨_, _, _, h1, _⟩ := h.r.r
    exact h.res.apart h1 (by decide)
  exact ⟨h.r.call hr ho, h.blk.grown ho (by have := h.hb; have := h.hg; simp; omega), h.res.grown ho (by simpa using hne), h.hb, h.hg, h.hgr⟩
theorem DcSt.put (h : DcSt wb wx B b g gr cs s) (i : Nat) (u : Value) : DcSt wb (wx.setCell ⟨g, i, none⟩ u) B b g gr (cs.setIfInBounds i u) s :=
  ⟨h.r.set h.hb h.hg, h.blk.set_ i u, h.res.set_other (by have := h.hg; have := h.hgr; omega), h.hb, h.hg, h.hgr⟩
theorem DcSt.num (h : DcSt wb wx B b g gr cs s) (most : Int) {v : Nat} (hv : Pk.numV s most = v) (hs : Pk.numS s most = s') : Calls Try.prog 35 #[.pointer (some ⟨b, 0, none⟩), .int .i64 most] wx fun e w' => e = .returned (.int .i64 (v : Int)) ∧ DcSt wb w' B b g gr cs s' ∧ Only b wx w' := by
  subst hv; subst hs
  exact (refrnum_any wx B b s most h.r.r).mono fun e w' ⟨h1, h2, h3, _⟩ => ⟨h1, h.step h2 h3, h3⟩
theorem own_len_ {W w : World} {A : Option Addr} {n c : Nat} {l : List Nat} (h : OwnB W w A n c l) : n = l.length := (own_len h).symm
theorem DcSt.data (h : DcSt wb wx B b g gr cs s) (most : Int) {v : List Nat} (hv : Pk.bytV s most = v) (hs : Pk.bytS s most = s') : Calls Try.prog 36 #[.pointer (some ⟨b, 0, none⟩), .int .i64 most] wx fun e w' => ∃ A c, e = .returned (.slice A v.length c) ∧ OwnB wb w' A v.length c v ∧ DcSt wb w' B b g gr cs s' ∧ Only b wx w' := by
  subst hv; subst hs
  refine (refrbytes_any wx B b s most h.r.r).mono ?_
  rintro e w' ⟨A, n, c, h1, h2, h3, h4⟩
  obtain rfl := own_len_ h2
  exact ⟨A, c, h1, own_of h.r.size h2, h.step h3 h4, h4⟩
theorem DcSt.nums (h : DcSt wb wx B b g gr cs s) {most : Int} (hm0 : 0 ≤ most) (hm : most ≤ 100) {R : List Int} (hR : (stF most s).1 = R) (hs : (stF most s).2 = s') : Calls Try.prog 37 #[.pointer (some ⟨b, 0, none⟩), .int .i64 most] wx fun e w' => ∃ A c, e = .returned (.slice A R.length c) ∧ OwnI wb w' A R.length c R ∧ DcSt wb w' B b g gr cs s' ∧ Only b wx w' :=
  (refRow_any wx B b s hm0 hm h.r.r hR hs).mono fun e w' ⟨A, c, h1, h2, h3, h4⟩ => ⟨A, c, h1, own_of h.r.size h2, h.step h3 h4, h4⟩
theorem DcSt.entry (h : DcSt wb wx B b g gr cs s) {v : En} (hv : En.read s = v) (hs : (En.get s).2 = s') : Calls Try.prog 38 #[.pointer (some ⟨b, 0, none⟩)] wx fun e w' => ∃ ca, e = .returned (.agg #[.int .i64 v.s, .int .i64 v.q, .int .i64 v.c.kind, .int .i64 v.c.who, .slice ca.Ak v.c.key.length ca.ck, .slice ca.Av v.c.val.length ca.cv, .slice ca.Ao v.c.old.length ca.co]) ∧ OwnC wb w' ca v.c ∧ DcSt wb w' B b g gr cs s' ∧ Only b wx w' := by
  subst hv; subst hs
  refine (refGetEntry_any wx B b s h.r.r).mono ?_
  rintro e w' ⟨ca, h1, h2, h3, h4⟩
  exact ⟨ca, h1, h2.of h.r.size, h.step h3 h4, h4⟩
theorem DcSt.ends (h : DcSt wb wx B b g gr cs s) : Calls Try.prog 39 #[.pointer (some ⟨b, 0, none⟩)] wx fun e w' => e = .returned (.bool (Pk.endOf s)) ∧ wx = w' := refend_any wx B b s h.r.r
end
end Go.Proofs.Ytmdkbmafkglhdaa

