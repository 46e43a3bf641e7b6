/- MesgSt MesgRow CrcWalks MesgAwake -/
import Derived.Test.YtmdkbmafkglhdaaF01
import Derived.Test.YtmdkbmafkglhdaaF03
import Derived.Test.YtmdkbmafkglhdaaF05
import Derived.Test.YtmdkbmafkglhdaaF31
import Derived.Laws.CopyOwn
import Derived.Below
import Derived.IntWalk
import Derived.Laws.BitsAllLaws
import Derived.Lib.Hide
import Derived.Outline
import Derived.ProofKit
import Derived.Test.YtmdkbmafkglhdaaRows
import Derived.WalkKit
import Derived.ArgAppend
import Derived.OwnWalk
namespace Go.Proofs.Ytmdkbmafkglhdaa
open Go.RowKit
set_option linter.unusedVariables false
/-- a writer along the way: the variables g, g + 1; all within bounds so far (ok), laid X -/
structure WaSt (W wx : World) (b g : Nat) (cs : Array Value) (ok : Bool) (X : List Nat) (d : Nat) : Prop where
  ex : ∃ L f, WrAt W wx b L f ∧ f = !ok ∧ (ok = true → L = X) ∧ L.length ≤ d
  blk : Blk wx g 29 cs
  res : Blk wx (g + 1) 29 msgZ
  hb : b < g
  hg : W.heap.size ≤ g
section
variable {W wx wy : World} {b g d i : Nat} {cs : Array Value} {ok : Bool} {X : List Nat} {u : Value}
theorem WaSt.bel (h : WaSt W wx b g cs ok X d) : Below W.heap.size W wx := by
  obtain ⟨L, f, ⟨_, _, _, _, q, _⟩, _⟩ := h.ex
  exact q
theorem WaSt.step {L : List Nat} {f : Bool} {ok' : Bool} {Y : List Nat} {d' : Nat} (hb : b < g) (hg : W.heap.size ≤ g) (h1 : f = !ok) (h2 : ok = true → L = X) (h3 : L.length ≤ d) (hk : Blk wx g 29 cs) (hr : Blk wx (g + 1) 29 msgZ) (h : WrP W wx b L f ok' Y d' wy) : WaSt W wy b g cs (ok && ok') (X ++ Y) (d + d') := by
  obtain ⟨L', f', k1, k2, k3, k4, k5⟩ := h
  refine ⟨⟨L', f', k1, ?_, fun hok => ?_, by omega⟩, hk.grown k2 (by simp; omega), hr.grown k2 (by simp; omega), hb, hg⟩
  · rw [k3, h1]; cases ok <;> cases ok' <;> rfl
  · rw [Bool.and_eq_true] at hok
    rw [k4 (by rw [k3, h1, hok.1, hok.2]; rfl), h2 hok.1]
theorem WaSt.put (h : WaSt W wx b g cs ok X d) (i : Nat) (u : Value) : WaSt W (wx.setCell ⟨g, i, none⟩ u) b g (cs.setIfInBounds i u) ok X d := by
  obtain ⟨L, f, k1, k2, k3, k4⟩ := h.ex
  exact ⟨⟨L, f, k1.set h.blk (by decide) (by have := h.hb; omega) h.hg, k2, k3, k4⟩, h.blk.set_ i u, h.res.set_other (by omega), h.hb, h.hg⟩
theorem WaSt.num (h : WaSt W wx b g cs ok X d) (hd : d ≤ 10000) (z most : Int) : Calls Try.prog 74 #[.pointer (some ⟨b, 0, none⟩), .int .i64 z, .int .i64 most] wx fun e w' => e = .returned (.int .i64 (if wi most z then z else 0)) ∧ WaSt W w' b g cs (ok && wi most z) (X ++ eI z) (d + 9) := by
  obtain ⟨L, f, k1, k2, k3, k4⟩ := h.ex
  exact (wnum_any k1 (by omega) z most).mono fun e w' ⟨q1, q2⟩ => ⟨q1, WaSt.step h.hb h.hg k2 k3 k4 h.blk h.res q2⟩
theorem WaSt.flag (h : WaSt W wx b g cs ok X d) (hd : d ≤ 10000) (x : Bool) : Calls Try.prog 47 #[.iface 49 (.pointer (some ⟨b, 0, none⟩)), .bool x] wx fun e w' => e = .returned (.bool x) ∧ WaSt W w' b g cs (ok && true) (X ++ eI (if x = true then 1 else 0)) (d + 9) := by
  obtain ⟨L, f, k1, k2, k3, k4⟩ := h.ex
  exact (wflag_any k1 (by omega) x).mono fun e w' ⟨q1, q2⟩ => ⟨q1, WaSt.step h.hb h.hg k2 k3 k4 h.blk h.res q2⟩
theorem WaSt.data {A' : Option Addr} {c' : Nat} {x : List Nat} (h : WaSt W wx b g cs ok X d) (hd : d ≤ 10000) (hr : Rd W W.heap.size A' x.length (bv x)) (most : Int) (hm : most ≤ 100) : Calls Try.prog 72 #[.pointer (some ⟨b, 0, none⟩), .slice A' x.length c', .int .i64 most] wx fun e w' => (∃ A n c, e = .returned (.slice A n c)) ∧ WaSt W w' b g cs (ok && decide ((x.length : Int) ≤ most)) (X ++ Pk.encB x) (d + 109) := by
  have hbel := h.bel
  obtain ⟨L, f, k1, k2, k3, k4⟩ := h.ex
  exact (wdata_any k1 (by omega) (hr.below hbel) most hm).mono fun e w' ⟨q1, q2⟩ => ⟨q1, WaSt.step h.hb h.hg k2 k3 k4 h.blk h.res q2⟩
theorem WaSt.nums {A' : Option Addr} {c' : Nat} {l : List Int} (h : WaSt W wx b g cs ok X d) (hd : d ≤ 10000) (hr : Rd W W.heap.size A' l.length (iv l)) (hc : l.length ≤ c' ∧ c' ≤ maxLen) (most : Nat) (hm : most ≤ 8) : Calls Try.prog 75 #[.pointer (some ⟨b, 0, none⟩), .slice A' l.length c', .int .i64 (most : Int)] wx fun e w' => (∃ A n c, e = .returned (.slice A n c)) ∧ WaSt W w' b g cs (ok && wis most l) (X ++ (encN l.length ++ Pk.encs l)) (d + 100) := by
  obtain ⟨L, f, k1, k2, k3, k4⟩ := h.ex
  exact (wnums_any k1 (by omega) hr hc most hm).mono fun e w' ⟨q1, q2⟩ => ⟨q1, WaSt.step h.hb h.hg k2 k3 k4 h.blk h.res q2⟩
theorem WaSt.entry {ca : CA} {e : En} (h : WaSt W wx b g cs ok X d) (hd : d ≤ 10000) (hc : e.c.Wide) (hr : RdC W W.heap.size ca e.c) : Calls Try.prog 73 #[.pointer (some ⟨b, 0, none⟩), entV ca e] wx fun en w' => (∃ ca' e', en = .returned (entV ca' e')) ∧ WaSt W w' b g cs (ok && e.ok) (X ++ e.enc) (d + 200) := by
  obtain ⟨L, f, k1, k2, k3, k4⟩ := h.ex
  exact (wentry_any k1 (by omega) hc hr).mono fun e w' ⟨q1, q2⟩ => ⟨q1, WaSt.step h.hb h.hg k2 k3 k4 h.blk h.res q2⟩
end
/-- a reader along the way -/
structure RaSt (w wx : World) (b g : Nat) (cs : Array Value) (s : Pk.St) : Prop where
  r : RgSt w wx b s
  blk : Blk wx g 29 cs
  res : Blk wx (g + 1) 29 msgZ
  hb : b < w.heap.size
  hg : w.heap.size ≤ g
section
variable {w wx wy : World} {b g i : Nat} {cs : Array Value} {s : Pk.St} {u : Value}
theorem RaSt.step {s' : Pk.St} (h : RaSt w wx b g cs s) (hr : RdrAt wy b s') (ho : Only b wx wy) : RaSt w wy b g cs s' :=
  ⟨h.r.call hr ho, h.blk.grown ho (by have := h.hb; have := h.hg; simp; omega), h.res.grown ho (by have := h.hb; have := h.hg; simp; omega), h.hb, h.hg⟩
theorem RaSt.put (h : RaSt w wx b g cs s) (i : Nat) (u : Value) : RaSt w (wx.setCell ⟨g, i, none⟩ u) b g (cs.setIfInBounds i u) s :=
  ⟨h.r.set h.blk (by decide) (by decide) h.hg, h.blk.set_ i u, h.res.set_other (by omega), h.hb, h.hg⟩
theorem RaSt.num (h : RaSt w wx b g cs s) (z most : Int) {v : Nat} {s' : Pk.St} (hv : Pk.numV s most = v) (hs : Pk.numS s most = s') : Calls Try.prog 91 #[.agg #[.pointer (some ⟨b, 0, none⟩)], .int .i64 z, .int .i64 most] wx fun e w' => e = .returned (.int .i64 (v : Int)) ∧ RaSt w w' b g cs s' ∧ Only b wx w' :=
  (rnum11_any wx b s z most h.r.r hv hs).mono fun e w' ⟨q1, q2, q3⟩ => ⟨q1, h.step q2 q3, q3⟩
theorem RaSt.flag (h : RaSt w wx b g cs s) (x : Bool) {v : Nat} {s' : Pk.St} (hv : Pk.numV s 1 = v) (hs : Pk.numS s 1 = s') : Calls Try.prog 47 #[.iface 59 (.agg #[.pointer (some ⟨b, 0, none⟩)]), .bool x] wx fun e w' => e = .returned (.bool (decide (v = 1))) ∧ RaSt w w' b g cs s' ∧ Only b wx w' :=
  (rflag_any wx b s x h.r.r hv hs).mono fun e w' ⟨q1, q2, q3⟩ => ⟨q1, h.step q2 q3, q3⟩
theorem RaSt.data (h : RaSt w wx b g cs s) (A0 : Option Addr) (n0 c0 : Nat) (most : Int) {v : List Nat} {s' : Pk.St} (hv : Pk.bytV s most = v) (hs : Pk.bytS s most = s') : Calls Try.prog 89 #[.agg #[.pointer (some ⟨b, 0, none⟩)], .slice A0 n0 c0, .int .i64 most] wx fun e w' => ∃ A c, e = .returned (.slice A v.length c) ∧ OwnB w w' A v.length c v ∧ RaSt w w' b g cs s' ∧ Only b wx w' :=
  (rdata11_any wx b s A0 n0 c0 most h.r.r hv hs).mono fun e w' ⟨A, c, q1, q2, q3, q4⟩ => ⟨A, c, q1, own_of h.r.size q2, h.step q3 q4, q4⟩
theorem RaSt.nums (h : RaSt w wx b g cs s) (A0 : Option Addr) (n0 c0 : Nat) {most : Int} (hm0 : 0 ≤ most) (hm : most ≤ 100) {R : List Int} {s' : Pk.St} (hR : (stF most s).1 = R) (hs' : (stF most s).2 = s') : Calls Try.prog 92 #[.agg #[.pointer (some ⟨b, 0, none⟩)], .slice A0 n0 c0, .int .i64 most] wx fun e w' => ∃ A c, e = .returned (.slice A R.length c) ∧ OwnI w w' A R.length c R ∧ RaSt w w' b g cs s' ∧ Only b wx w' :=
  (rnums11_any wx b s A0 n0 c0 hm0 hm h.r.r hR hs').mono fun e w' ⟨A, c, q1, q2, q3, q4⟩ => ⟨A, c, q1, own_of h.r.size q2, h.step q3 q4, q4⟩
theorem RaSt.entry (h : RaSt w wx b g cs s) (ca : CA) (e0 : En) {e : En} {s' : Pk.St} (hv : En.read s = e) (hs : (En.get s).2 = s') : Calls Try.prog 90 #[.agg #[.pointer (some ⟨b, 0, none⟩)], entV ca e0] wx fun en w' => ∃ ca, en = .returned (entV ca e) ∧ OwnC w w' ca e.c ∧ RaSt w w' b g cs s' ∧ Only b wx w' :=
  (rentry11_any wx b s ca e0 h.r.r hv hs).mono fun e w' ⟨ca, q1, q2, q3, q4⟩ => ⟨ca, q1, q2.of h.r.size, h.step q3 q4, q4⟩
end
end Go.Proofs.Ytmdkbmafkglhdaa

namespace Go.Proofs.Ytmdkbmafkglhdaa
open Go.RowKit
set_option linter.unusedVariables false
section
variable {W w wx : World} {b g k : Nat} {t e : TypeId} {old cs c : Array Value}
theorem only_row (w : World) (g : Nat) (cs : Array Value) : Only g w (w.setRow g cs) :=
  ⟨rfl, rfl, rfl, by simp, fun k hk hne => setRow_other w g k cs (by rintro rfl; exact hne rfl)⟩
theorem Blk.row (h : Blk w g t old) (cs : Array Value) : Blk (w.setRow g cs) g t cs := setRow_heap w g old cs t (0, 0) h
theorem Blk.row_other (h : Blk w k t c) (hne : k ≠ g) (cs : Array Value) : Blk (w.setRow g cs) k t c := (setRow_other w g k cs hne).trans h
theorem own_row_t {base size n : Nat} {v : Value} {xs : List Value} (h : w.ownsRow base e size v n xs) (hb : Blk w b t old) (hne : e ≠ t) : (w.setRow b cs).ownsRow base e size v n xs := by
  refine h.kept (only_row w b cs) ?_
  rcases h.2 with ⟨h1, _⟩ | ⟨g, cap, cur, h1, _, hh, _⟩
  · rw [h1]; exact .inl rfl
  · rw [h1]
    refine .inr ?_
    show some g ≠ some b
    intro h0
    injection h0 with h0
    subst h0
    have hb' : w.heap[g]? = some (.cells old t (0, 0)) := hb
    rw [hb'] at hh
    injection hh with hh
    injection hh with _ h3 _
    exact hne h3.symm
theorem WrAt.row {L : List Nat} {f : Bool} (h : WrAt W w b L f) (hk : Blk w g t old) (h1 : 5 ≠ t) (hne : b ≠ g) (hg : W.heap.size ≤ g) : WrAt W (w.setRow g cs) b L f := by
  obtain ⟨A, c, k1, k2, k3, k4⟩ := h
  exact ⟨A, c, k1.row_other hne cs, own_row_t k2 hk h1, below_setRow k3 hg cs, k4⟩
theorem RgSt.rowS {s : Pk.St} (h : RgSt w wx b s) (hk : Blk wx g t old) (h1 : 5 ≠ t) (h2 : 82 ≠ t) (hg : w.heap.size ≤ g) : RgSt w (wx.setRow g cs) b s := by
  obtain ⟨A, n, c, hb, q1, q2, q3, q4, q5⟩ := h.r
  exact ⟨⟨A, n, c, hb.row_other (hb.apart hk h2) cs, q1, q2, q3, q4.grown (only_row wx g cs) hk h1, q5⟩, only_below h.only (below_setRow (Below.refl w.heap.size wx) hg cs) (Nat.le_refl _)⟩
theorem OwnG.rowS {a : GA} {m : Mg} (h : OwnG w wx a m) (hk : Blk wx g t old) (h1 : 5 ≠ t) (h2 : 3 ≠ t) : OwnG w (wx.setRow g cs) a m :=
  ⟨own_row_t h.d hk h1, own_row_t h.h hk h2, own_row_t h.n hk h2, ⟨own_row_t h.c.k hk h1, own_row_t h.c.v hk h1, own_row_t h.c.o hk h1⟩⟩
theorem WaSt.rowS {ok : Bool} {X : List Nat} {d : Nat} (h : WaSt W wx b g cs ok X d) (c : Array Value) : ∃ L f, WrAt W (wx.setRow (g + 1) c) b L f ∧ f = !ok ∧ (ok = true → L = X) := by
  obtain ⟨L, f, k1, k2, k3, k4⟩ := h.ex
  exact ⟨L, f, k1.row h.res (by decide) (by have := h.hb; omega) (by have := h.hg; omega), k2, k3⟩
theorem RaSt.rowS {a : GA} {m : Mg} {s : Pk.St} (h : RaSt w wx b g cs s) (ho : OwnG w wx a m) (c : Array Value) : RgSt w (wx.setRow (g + 1) c) b s ∧ OwnG w (wx.setRow (g + 1) c) a m :=
  ⟨h.r.rowS h.res (by decide) (by decide) (by have := h.hg; omega), ho.rowS h.res (by decide) (by decide)⟩
end
end Go.Proofs.Ytmdkbmafkglhdaa

namespace Go.Proofs.Ytmdkbmafkglhdaa
open Go.RowKit
set_option linter.unusedVariables false

/-- a number of 32 bits, behind a name -/
def Crc.U32 (n : Nat) : Prop := n < 4294967296
theorem Crc.and_one {n : Nat} (h : Crc.U32 n) : bits .and .u32 (n : Int) 1 = ((n % 2 : Nat) : Int) := by
  have e := u32_and_nat n 1 h (by decide)
  rw [Nat.and_one_is_mod] at e
  exact e
theorem Crc.stp_odd {n : Nat} (h : Crc.U32 n) (ho : (bits .and .u32 (n : Int) 1 == 1) = true) : bits .xor .u32 ((n : Int) / 2) 3988292384 = ((Crc.stp n : Nat) : Int) := by
  rw [Crc.and_one h] at ho
  have ho' : n % 2 = 1 := by have := beq_iff_eq.1 ho; omega
  unfold Crc.U32 at h
  have e := u32_xor_nat (n / 2) 3988292384 (by omega) (by decide)
  rw [Crc.stp, if_pos ho']
  exact e
theorem Crc.stp_even {n : Nat} (h : Crc.U32 n) (ho : (bits .and .u32 (n : Int) 1 == 1) = false) : (n : Int) / 2 = ((Crc.stp n : Nat) : Int) := by
  rw [Crc.and_one h] at ho
  have ho' : n % 2 ≠ 1 := by have := beq_eq_false_iff_ne.1 ho; omega
  rw [Crc.stp, if_neg ho']
  omega
theorem step_any (n : Nat) (h : Crc.U32 n) (w : World) :
    Calls Try.prog 56 #[.int .u32 n] w fun e w' => e = .returned (.int .u32 (Crc.stp n : Nat)) ∧ w = w' := by
  go_enter Try.func56, Try.ntmps56
  go_wp2
  · have ho : (bits .and .u32 (n : Int) 1 == 1) = true := by assumption
    go_ret
    exact ⟨ret_int (Crc.stp_odd h ho), rfl⟩
  · have ho : (bits .and .u32 (n : Int) 1 == 1) = false := by assumption
    go_ret
    exact ⟨ret_int (Crc.stp_even h ho), rfl⟩

theorem next_any (c x : Nat) (hc : Crc.U32 c) (hx : x < 256) (w : World) :
    Calls Try.prog 54 #[.int .u32 c, .int .u8 x] w fun e w' => e = .returned (.int .u32 (Crc.nxt c x : Nat)) ∧ w = w' := by
  have hcx : Crc.U32 (c ^^^ x) := Crc.xor_lt32 hc (by omega)
  go_enter Try.func54, Try.ntmps54
  have hx0 : bits .xor .u32 (c : Int) (x : Int) = ((c ^^^ x : Nat) : Int) := u32_xor_nat c x hc (by omega)
  go_wp2
  go_loop [0, 9] (fun c' i => ∃ k : Nat, k ≤ 8 ∧ i = .int .i64 k ∧ c' = .int .u32 (Crc.stpN k (c ^^^ x) : Nat)) (fun _ i => 8 - (intOf i).toNat)
  case atStart => exact ⟨0, by omega, rfl, by first | rfl | (rw [hx0]; rfl)⟩
  case round =>
    obtain ⟨k, hk, rfl, rfl⟩ := hrel
    have hs : Crc.U32 (Crc.stpN k (c ^^^ x)) := Crc.stpN_lt k hcx
    by_cases hlt : k < 8
    · go_wp2_with (go_at_call 56; refine (step_any _ hs _).mono ?_; rintro e w' ⟨rfl, rfl⟩)
      go_round
      case rel => exact ⟨k + 1, by omega, by go_num, rfl⟩
      case measure => simp [intOf]; omega
    · go_wp2
      go_ret
      exact ⟨ret_int (by have : k = 8 := by omega
                         subst this; rfl), rfl⟩

theorem Crc.run_zero (c : Nat) (l : List Nat) : Crc.run c (l.take 0) = c := by simp [Crc.run]
theorem Crc.run_take (c : Nat) (l : List Nat) (k : Nat) (h : k < l.length) : Crc.run c (l.take (k + 1)) = Crc.nxt (Crc.run c (l.take k)) l[k] := by
  rw [List.take_succ_eq_append_getElem h, Crc.run_snoc]
theorem Crc.take_lt {l : List Nat} (hl : ∀ x ∈ l, x < 256) (k : Nat) : ∀ x ∈ l.take k, x < 256 := fun x hx => hl x (List.mem_of_mem_take hx)
theorem sum_any (l : List Nat) (hl : ∀ x ∈ l, x < 256) (a : Option Addr) (n cap B : Nat) (hn : n ≤ maxLen) (w : World) (h : Rd w B a n (bv l)) :
    Calls Try.prog 51 #[.slice a n cap] w fun e w' => e = .returned (.int .u32 (Crc.sum l : Nat)) ∧ w = w' := by
  unfold maxLen at hn
  have hlen := Lib.hid h.length
  have H := Lib.hid h
  clear h
  have H0 := Lib.hid (Crc.run_zero 4294967295 l)
  go_enter Try.func51, Try.ntmps51
  go_wp2
  go_loop [3, 5, 8] (fun c x i => ∃ k : Nat, k ≤ n ∧ i = .int .i64 k ∧ c = .int .u32 (Crc.run 4294967295 (l.take k) : Nat)) (fun _ _ i => n - (intOf i).toNat)
  case atStart => exact ⟨0, by omega, rfl, by rw [H0.out]; rfl⟩
  case round =>
    obtain ⟨k, hk, rfl, rfl⟩ := hrel
    have hs : Crc.U32 (Crc.run 4294967295 (l.take k)) := Crc.run_lt _ (by omega) (Crc.take_lt hl k)
    by_cases hlt : k < n
    · obtain ⟨b, o, rfl, hk', hc⟩ := H.out.bytes_at hlt
      have hx : l[k] < 256 := hl _ (List.getElem_mem hk')
      have HT := Lib.hid (Crc.run_take 4294967295 l k hk')
      go_wp2_with (go_at_call 54; refine (next_any _ _ hs hx _).mono ?_; rintro e w' ⟨rfl, rfl⟩)
      go_round
      case rel => exact ⟨k + 1, by omega, by go_num, by rw [HT.out]⟩
      case measure => simp [intOf]; omega
    · have HK := Lib.hid (show k = l.length from by have := hlen.out; omega)
      have hx := u32_xor_nat (Crc.run 4294967295 (l.take k)) 4294967295 hs (by omega)
      have HX := Lib.hid hx
      clear hx
      go_wp2
      go_ret
      exact ⟨ret_int (by
        refine Eq.trans HX.out ?_
        rw [HK.out, List.take_length]; rfl), rfl⟩
end Go.Proofs.Ytmdkbmafkglhdaa

namespace Go.Proofs.Ytmdkbmafkglhdaa
open Go.RowKit
set_option linter.unusedVariables false
namespace mesgA
end mesgA
/-- a load of a whole block, where it is asked for -/
theorem wpList_load_rowG {P : Program} {ops : Array Oper} {rest : List Oper} {o : Oper} {a : Act} {w : World} {Q : Exit → Act → World → Prop} (hw : Region.wanted o (yielded ops a.tmps) = true) (ty : TypeId) (x : Operand) (ho : o.op = .load ty x)
    (g : Nat) (hx : a.eval x = .pointer (some ⟨g, 0, none⟩)) (t : TypeId) (cs : Array Value) (fr : Nat × Nat) (d : TypeDesc) (hg : w.heap[g]? = some (.cells cs t fr))
    (hu : P.underlying ty = some d) (hd : (match d with | .struct _ | .array _ _ => true | _ => false) = true) (hi : (P.info? ty).map (·.size) = some cs.size)
    (h : wpList P ops Q rest (a.put o.dst (.agg cs)) w) : wpList P ops Q (o :: rest) a w := by
  unfold wpList
  rw [if_pos hw]
  exact Or.inl (wp_load_row ty x ho g hx t cs fr d hg hu hd hi h)
end Go.Proofs.Ytmdkbmafkglhdaa

