/- TknCode1 -/
import Derived.Test.YtbgagmpifaakgaaTF04
import Derived.Test.YtbgagmpifaakgaaTF14
import Derived.Test.YtbgagmpifaakgaaTF22
import Derived.Test.YtbgagmpifaakgaaTF23
import Derived.Test.YtbgagmpifaakgaaTF29
import Derived.Test.YtbgagmpifaakgaaTF30
import Derived.ArgAppend
import Derived.Deep.MidRow
import Derived.OwnWalk
namespace Go.Proofs.Ytbgagmpifaakgaa
open Go.RowKit
set_option linter.unusedVariables false
theorem held17 (w : World) (n lo hi : Int) : Calls Try.prog 16 #[.int .i64 n, .int .i64 lo, .int .i64 hi] w fun e w' => e = .returned (.int .i64 (Tk.held n lo hi)) ∧ w' = w := by
  go_enter Try.func16, Try.ntmps16
  go_wp2
  all_goals
    go_ret
    exact ⟨ret_int (by rename_i h1; (first | rw [if_pos (by omega)] at h1 | rw [if_neg (by omega)] at h1); unfold Tk.held; omega), rfl⟩
set_option maxRecDepth 100000 in
theorem minI (w : World) {A : Option Addr} {n c B : Nat} {l : List Int} (h : Rd w B A n (iv l)) (hn : n ≤ 100000) (h0 : 0 < n) :
    Calls Try.prog 19 #[.slice A n c] w fun e w' => e = .returned (.int .i64 (Tk.safe l)) ∧ w' = w := by
  obtain rfl : l.length = n := by have := h.1; rwa [iv_length] at this
  obtain ⟨x, r, rfl⟩ : ∃ x r, l = x :: r := by cases l with | nil => simp at h0 | cons x r => exact ⟨x, r, rfl⟩
  obtain ⟨b, o, rfl, _⟩ := h.int_at h0
  have hc0 := h.int_cell (k := 0) (z := x) h0 rfl
  rw [Nat.add_zero] at hc0
  have H := Lib.hid h
  have HS : Hid (Tk.safe (x :: r) = r.foldl min x) := Lib.hid rfl
  obtain ⟨n, hln⟩ : ∃ n, (x :: r).length = n := ⟨_, rfl⟩
  have HR : Hid (r.length + 1 = n) := Lib.hid (by rw [← hln]; rfl)
  rw [hln] at H h0 hn ⊢
  clear h hln
  have hn1 : ¬ (n : Int) < 1 := by omega
  go_enter Try.func19, Try.ntmps19
  go_wp2_with fail
  go_loopw [3, 4] (fun s3 s4 wr => ∃ k : Nat, s4 = .int .i64 ((k : Int) + 1) ∧ s3 = .int .i64 ((r.take k).foldl min x) ∧ k + 1 ≤ n ∧ wr = w) (fun _ s4 _ => (n + 1 - intOf s4).toNat)
  case atStart => exact ⟨0, rfl, rfl, by omega, rfl⟩
  case round =>
    obtain ⟨k, rfl, rfl, hk, rfl⟩ := hrel
    obtain ⟨j, hj⟩ : ∃ j, k + 1 = j := ⟨_, rfl⟩
    have hji : (k : Int) + 1 = (j : Int) := by omega
    by_cases hlt : j < n
    · obtain ⟨z, hz⟩ : ∃ z, r[k]? = some z := ⟨_, List.getElem?_eq_getElem (by have := HR.out; omega)⟩
      have hc := H.out.int_cell (k := j) (z := z) (by omega) (by rw [← hj]; exact hz)
      have hf := Lib.hid (Tk.foldl_min_take r x k z hz)
      have hwi : IntKind.i64.wrap ((j : Int) + 1) = (j : Int) + 1 := IntWalk.i64_in _ (by omega)
      have HJ := Lib.hid hj
      rw [hji]
      obtain ⟨S, hS⟩ : ∃ S, (r.take k).foldl min x = S := ⟨_, rfl⟩
      rw [hS]
      rw [hS] at hf
      clear hz hj hS hji
      go_wp2_with fail
      go_roundw
      case rel => exact ⟨k + 1, by have := HJ.out; subst this; go_num, by rw [hf.out]; congr 1; split <;> omega, by have := HJ.out; omega, trivial⟩
      case measure => have := HJ.out; simp [intOf]; omega
    · have hkr : k = r.length := by have := HR.out; omega
      have hx : (r.take k).foldl min x = r.foldl min x := by rw [List.take_of_length_le (by omega)]
      obtain ⟨S, hS⟩ : ∃ S, (r.take k).foldl min x = S := ⟨_, rfl⟩
      have HX : Hid (S = Tk.safe (x :: r)) := Lib.hid (by rw [HS.out, ← hx, hS])
      rw [hS, hji]
      clear hx hS hji
      go_wp2_with fail
      go_ret
      exact ⟨ret_int HX.out, rfl⟩
set_option maxRecDepth 100000 in
theorem safe17 (w : World) {a : GA} {m : Mg} {B : Nat} {s : Int} (hs : Tk.safe m.hav = s) (h : Rd w B a.Ah m.hav.length (iv m.hav)) (hn : m.hav.length ≤ 100000) :
    Calls Try.prog 8 #[msgV a m] w fun e w' => e = .returned (.int .i64 s) ∧ Below w.heap.size w w' := by
  obtain ⟨g, hg⟩ : ∃ g, w.heap.size = g := ⟨_, rfl⟩
  obtain ⟨wx, hwx⟩ : ∃ wx, w.alloc (.cells (msgC a m) 29) = wx := ⟨_, rfl⟩
  have hbb : Below w.heap.size w wx := by rw [← hwx]; exact (Below.refl _ _).alloc (Nat.le_refl _) _
  have k1 : Blk wx g 29 (msgC a m) := by rw [← hwx, ← hg]; exact Blk.new _ _ _
  have HR := Lib.hid (h.fit.below hbb)
  have HB := Lib.hid hbb
  have HWX := Lib.hid hwx
  have HG := Lib.hid hg
  have HS := Lib.hid hs
  have hc := k1.cell 14
  simp [msgC] at hc
  unfold msgC at HWX
  unfold msgV msgC
  clear h hbb k1 hwx hg hs
  rcases Nat.eq_zero_or_pos m.hav.length with h0 | h0
  · have b0 : ((m.hav.length : Int) == 0) = true := by rw [h0]; rfl
    have HZ : Hid (s = 0) := Lib.hid (by rw [← HS.out, List.length_eq_zero_iff.1 h0]; rfl)
    clear h0
    go_enter Try.func8, Try.ntmps8
    go_upto_region 1 with fail
    rw [HG.out, HWX.out]
    go_wp2_with fail
    go_ret
    exact ⟨ret_int HZ.out.symm, HB.out⟩
  · have b0 : ((m.hav.length : Int) == 0) = false := by rw [beq_eq_false_iff_ne]; omega
    have CM := Lib.hid (minI (c := a.ch) wx HR.out hn h0)
    rw [HS.out] at CM
    clear h0
    go_enter Try.func8, Try.ntmps8
    go_upto_region 1 with fail
    rw [HG.out, HWX.out]
    go_wp2_with fail
    refine CM.out.mono ?_
    rintro e w2 ⟨rfl, rfl⟩
    go_wp2_with fail
    go_ret
    exact ⟨rfl, HB.out⟩
set_option maxRecDepth 100000 in
theorem room17 (w : World) {a : GA} {m : Mg} {B : Nat} {r : Int} (hr : Tk.room m.seq (Tk.safe m.hav) = r) (h : Rd w B a.Ah m.hav.length (iv m.hav)) (hn : m.hav.length ≤ 100000) (h1 : -1099511627776 ≤ m.seq ∧ m.seq ≤ 1099511627776) (h2 : -1099511627776 ≤ Tk.safe m.hav ∧ Tk.safe m.hav ≤ 1099511627776) :
    Calls Try.prog 9 #[msgV a m] w fun e w' => e = .returned (.int .i64 r) ∧ Below w.heap.size w w' := by
  obtain ⟨g, hg⟩ : ∃ g, w.heap.size = g := ⟨_, rfl⟩
  obtain ⟨wx, hwx⟩ : ∃ wx, w.alloc (.cells (msgC a m) 29) = wx := ⟨_, rfl⟩
  have hbb : Below w.heap.size w wx := by rw [← hwx]; exact (Below.refl _ _).alloc (Nat.le_refl _) _
  have k1 : Blk wx g 29 (msgC a m) := by rw [← hwx, ← hg]; exact Blk.new _ _ _
  have HB := Lib.hid hbb
  have HWX := Lib.hid hwx
  have HG := Lib.hid hg
  obtain ⟨s, hs⟩ : ∃ s, Tk.safe m.hav = s := ⟨_, rfl⟩
  have CS := Lib.hid (safe17 wx hs (h.fit.below hbb) hn)
  rw [hs] at hr h2
  have HK := Lib.hid k1
  unfold msgC at HWX HK
  unfold msgV msgC at CS
  unfold msgV msgC
  clear h hbb k1 hwx hg hs
  by_cases c0 : m.seq ≤ s
  · have HF : Hid (4 = r) := Lib.hid (by rw [← hr]; unfold Tk.room; rw [if_pos c0])
    clear hr
    go_enter Try.func9, Try.ntmps9
    go_upto_region 1 with fail
    rw [HG.out, HWX.out]
    clear HWX
    go_wp2_with (first
      | (refine wpList_load_row rfl 29 (.tmp 1) rfl g rfl 29 #[.int .i64 m.kind, .int .i64 m.frm, .int .i64 m.dst, .int .i64 m.view, .int .i64 m.inst, .int .i64 m.len, .bool m.has, .int .i64 m.mem, .int .i64 m.src, .int .i64 m.pos, .int .i64 m.tot, .slice a.Ad m.data.length a.cd, .int .i64 m.hop, .int .i64 m.seq, .slice a.Ah m.hav.length a.ch, .slice a.An m.nee.length a.cn, .int .i64 m.idx, .int .i64 m.ent.s, .int .i64 m.ent.q, .int .i64 m.ent.c.kind, .int .i64 m.ent.c.who, .slice a.c.Ak m.ent.c.key.length a.c.ck, .slice a.c.Av m.ent.c.val.length a.c.cv, .slice a.c.Ao m.ent.c.old.length a.c.co] (0, 0) _ HK.out Try.underlying29 rfl (by kernel_rfl) ?_)
      | (go_at_call 8; refine CS.out.mono ?_; rintro e w2 ⟨rfl, hb2⟩; have HK2 := Lib.hid (HK.out.below hb2); have HB2 := Lib.hid (hb2); have hc := HK2.out.cell 13; clear hb2)
      | fail)
    all_goals
      go_ret
      exact ⟨ret_int (by have := HF.out; omega), HB.out.trans (HB2.out.mono HB.out.size)⟩
  · obtain ⟨D, hD⟩ : ∃ D, m.seq - s = D := ⟨_, rfl⟩
    have hD0 : 0 < D ∧ D ≤ 2199023255552 := by omega
    have hU : IntKind.u64.wrap (IntKind.u64.wrap m.seq - IntKind.u64.wrap s) = D := by
      have e : ∀ z : Int, IntKind.u64.wrap z = z % 18446744073709551616 := fun z => rfl
      rw [e, e, e, ← Int.sub_emod]
      omega
    by_cases c1 : 16 ≤ D
    · have HF : Hid (0 = r) := Lib.hid (by rw [← hr]; unfold Tk.room; rw [if_neg c0]; omega)
      clear hr hD
      go_enter Try.func9, Try.ntmps9
      go_upto_region 1 with fail
      rw [HG.out, HWX.out]
      clear HWX
      go_wp2_with (first
        | (refine wpList_load_row rfl 29 (.tmp 1) rfl g rfl 29 #[.int .i64 m.kind, .int .i64 m.frm, .int .i64 m.dst, .int .i64 m.view, .int .i64 m.inst, .int .i64 m.len, .bool m.has, .int .i64 m.mem, .int .i64 m.src, .int .i64 m.pos, .int .i64 m.tot, .slice a.Ad m.data.length a.cd, .int .i64 m.hop, .int .i64 m.seq, .slice a.Ah m.hav.length a.ch, .slice a.An m.nee.length a.cn, .int .i64 m.idx, .int .i64 m.ent.s, .int .i64 m.ent.q, .int .i64 m.ent.c.kind, .int .i64 m.ent.c.who, .slice a.c.Ak m.ent.c.key.length a.c.ck, .slice a.c.Av m.ent.c.val.length a.c.cv, .slice a.c.Ao m.ent.c.old.length a.c.co] (0, 0) _ HK.out Try.underlying29 rfl (by kernel_rfl) ?_)
        | (go_at_call 8; refine CS.out.mono ?_; rintro e w2 ⟨rfl, hb2⟩; have HK2 := Lib.hid (HK.out.below hb2); have HB2 := Lib.hid (hb2); have hc := HK2.out.cell 13; clear hb2)
        | fail)
      all_goals
        go_ret
        exact ⟨ret_int (by have := HF.out; omega), HB.out.trans (HB2.out.mono HB.out.size)⟩
    · have hw1 : IntKind.i64.wrap D = D := IntWalk.i64_in _ (by omega)
      have hw2 : IntKind.i64.wrap (16 - D) = 16 - D := IntWalk.i64_in _ (by omega)
      by_cases c2 : 4 ≤ 16 - D
      · have HF : Hid (4 = r) := Lib.hid (by rw [← hr]; unfold Tk.room; rw [if_neg c0]; omega)
        clear hr hD
        go_enter Try.func9, Try.ntmps9
        go_upto_region 1 with fail
        rw [HG.out, HWX.out]
        clear HWX
        go_wp2_with (first
          | (refine wpList_load_row rfl 29 (.tmp 1) rfl g rfl 29 #[.int .i64 m.kind, .int .i64 m.frm, .int .i64 m.dst, .int .i64 m.view, .int .i64 m.inst, .int .i64 m.len, .bool m.has, .int .i64 m.mem, .int .i64 m.src, .int .i64 m.pos, .int .i64 m.tot, .slice a.Ad m.data.length a.cd, .int .i64 m.hop, .int .i64 m.seq, .slice a.Ah m.hav.length a.ch, .slice a.An m.nee.length a.cn, .int .i64 m.idx, .int .i64 m.ent.s, .int .i64 m.ent.q, .int .i64 m.ent.c.kind, .int .i64 m.ent.c.who, .slice a.c.Ak m.ent.c.key.length a.c.ck, .slice a.c.Av m.ent.c.val.length a.c.cv, .slice a.c.Ao m.ent.c.old.length a.c.co] (0, 0) _ HK.out Try.underlying29 rfl (by kernel_rfl) ?_)
          | (go_at_call 8; refine CS.out.mono ?_; rintro e w2 ⟨rfl, hb2⟩; have HK2 := Lib.hid (HK.out.below hb2); have HB2 := Lib.hid (hb2); have hc := HK2.out.cell 13; clear hb2)
          | fail)
        all_goals
          go_ret
          exact ⟨ret_int (by have := HF.out; omega), HB.out.trans (HB2.out.mono HB.out.size)⟩
      · have HF : Hid (16 - D = r) := Lib.hid (by rw [← hr]; unfold Tk.room; rw [if_neg c0]; omega)
        clear hr hD
        go_enter Try.func9, Try.ntmps9
        go_upto_region 1 with fail
        rw [HG.out, HWX.out]
        clear HWX
        go_wp2_with (first
          | (refine wpList_load_row rfl 29 (.tmp 1) rfl g rfl 29 #[.int .i64 m.kind, .int .i64 m.frm, .int .i64 m.dst, .int .i64 m.view, .int .i64 m.inst, .int .i64 m.len, .bool m.has, .int .i64 m.mem, .int .i64 m.src, .int .i64 m.pos, .int .i64 m.tot, .slice a.Ad m.data.length a.cd, .int .i64 m.hop, .int .i64 m.seq, .slice a.Ah m.hav.length a.ch, .slice a.An m.nee.length a.cn, .int .i64 m.idx, .int .i64 m.ent.s, .int .i64 m.ent.q, .int .i64 m.ent.c.kind, .int .i64 m.ent.c.who, .slice a.c.Ak m.ent.c.key.length a.c.ck, .slice a.c.Av m.ent.c.val.length a.c.cv, .slice a.c.Ao m.ent.c.old.length a.c.co] (0, 0) _ HK.out Try.underlying29 rfl (by kernel_rfl) ?_)
          | (go_at_call 8; refine CS.out.mono ?_; rintro e w2 ⟨rfl, hb2⟩; have HK2 := Lib.hid (HK.out.below hb2); have HB2 := Lib.hid (hb2); have hc := HK2.out.cell 13; clear hb2)
          | fail)
        all_goals
          go_ret
          exact ⟨ret_int (by have := HF.out; omega), HB.out.trans (HB2.out.mono HB.out.size)⟩
end Go.Proofs.Ytbgagmpifaakgaa

