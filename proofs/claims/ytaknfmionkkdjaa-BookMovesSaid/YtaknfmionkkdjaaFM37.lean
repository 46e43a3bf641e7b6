/- BookWin1 BookWin2 -/
import Derived.Test.YtaknfmionkkdjaaFM35
import Derived.Test.YtaknfmionkkdjaaFM36
import Derived.Below
import Derived.BigQuiet
import Derived.Deep.QuietTactic
import Derived.Deep.RegionWith
import Derived.IntWalk
import Derived.Outline
import Derived.OwnWalk
import Derived.ProofKit
import Derived.Test.YtaknfmionkkdjaaRows
import Derived.WalkKit
import Derived.WalkLawsBesides
import Derived.WalkSmall
import Derived.WalkSpells
import Derived.Deep.CutBlock
import Derived.Deep.DeepCutAuto
import Derived.Deep.DrawnRows
import Derived.Deep.RegionHeld3
import Derived.RegionTactic
namespace Go.Proofs.Ytaknfmionkkdjaa
open Go.RowKit
set_option linter.unusedVariables false
theorem quiet_leftE {P : Program} {f : FuncId} {args : Array Value} {w : World} {n : Nat} {v : Value}
    (h : Calls P f args (w.drewN n) fun e w' => e = .returned v ∧ w.drewN n = w') : Calls P f args (w.drewN n) fun e w'' => e = .returned v ∧ ∃ m, w'' = w.drewN m :=
  h.mono fun _ _ ⟨he, hm⟩ => ⟨he, n, hm.symm⟩
section
variable (w : World) {b fr wh n c : Nat} {A : Option Addr} {ss : List (Option VE)} (h : WinE w b fr wh A n c ss)
include h
theorem winFrom : Calls Try.prog 26 #[.pointer (some ⟨b, 0, none⟩)] w fun e w' => e = .returned (.int .i64 (fr : Int)) ∧ w = w' := by
  have hc := h.blk.cell 0
  simp at hc
  clear h
  go_enter Try.func26, Try.ntmps26
  go_wp2
  go_ret
  exact ⟨rfl, rfl⟩
theorem winWhole : Calls Try.prog 27 #[.pointer (some ⟨b, 0, none⟩)] w fun e w' => e = .returned (.int .i64 (wh : Int)) ∧ w = w' := by
  have hc := h.blk.cell 1
  simp at hc
  clear h
  go_enter Try.func27, Try.ntmps27
  go_wp2
  go_ret
  exact ⟨rfl, rfl⟩
theorem winPlace (k : Nat) (hk : FitB (fr + k)) :
    Calls Try.prog 39 #[.pointer (some ⟨b, 0, none⟩), .int .i64 ((fr : Int) + 1 + (k : Int))] w fun e w' => e = .returned (.int .i64 (k : Int)) ∧ w = w' := by
  have hc := h.blk.cell 0
  simp at hc
  have hk1 := hk.out
  have e1 : IntKind.i64.wrap ((fr : Int) + 1 + (k : Int) - fr) = 1 + (k : Int) := by rw [IntWalk.i64_in _ (by omega)]; omega
  have e2 : IntKind.i64.wrap (1 + (k : Int) - 1) = (k : Int) := by rw [IntWalk.i64_in _ (by omega)]; omega
  clear h hk hk1
  go_enter Try.func39, Try.ntmps39
  go_wp2
  go_ret
  exact ⟨by first | rfl | (rw [e1, e2]), rfl⟩
theorem winTop : Calls Try.prog 38 #[.pointer (some ⟨b, 0, none⟩)] w fun e w' => e = .returned (.int .i64 ((fr : Int) + (ss.length : Int))) ∧ ∃ n, w' = w.drewN n := by
  have hc0 := h.blk.cell 0
  have hc2 := h.blk.cell 2
  simp at hc0 hc2
  have hn := Lib.hid h.len
  have hb : (fr : Int) + (n : Int) ≤ 2000000000000 := by have := h.fit.out; omega
  have hE := Lib.hid (show ((fr : Int) + (n : Int)) = (fr : Int) + (ss.length : Int) by have := hn.out; omega)
  clear h
  go_enter Try.func38, Try.ntmps38
  go_wp2
  go_quiet (fail)
  go_wp2
  go_ret
  exact ⟨ret_int hE.out, _, rfl⟩
theorem winHas (i : Int) : Calls Try.prog 37 #[.pointer (some ⟨b, 0, none⟩), .int .i64 i] w fun e w' => e = .returned (.bool (Wd.hasB fr ss i)) ∧ ∃ n, w' = w.drewN n := by
  have HW := Lib.hid h
  have hc0 := h.blk.cell 0
  have hc2 := h.blk.cell 2
  simp at hc0 hc2
  have hn := h.len
  have hfit := h.fit
  have h2 := h.row
  by_cases hi : i ≤ fr
  · have HE := Lib.hid (Wd.hasB_no (ss := ss) hi)
    have hd : decide ((fr : Int) < i) = false := by simp; omega
    clear h h2 hn hc2 hi hfit
    go_enter Try.func37, Try.ntmps37
    go_wp2
    go_quiet (fail)
    go_wp2
    go_ret
    exact ⟨ret_bool HE.out.symm, _, rfl⟩
  · have hd : decide ((fr : Int) < i) = true := by simp; omega
    by_cases hj : ((fr + ss.length : Nat) : Int) < i
    · have HE := Lib.hid (Wd.hasB_far (ss := ss) hj)
      have hd2 : decide (i ≤ (fr : Int) + (ss.length : Int)) = false := by simp; omega
      have HT := Lib.hid (fun k => winTop (w.drewN k) (HW.out.drewN k))
      clear h h2 hn hc2 hi hj hfit
      go_enter Try.func37, Try.ntmps37
      go_wp2
      go_quiet ((go_at_call 38; exact Calls.quiet_of (HT.out _)))
      go_wp2
      go_ret
      exact ⟨ret_bool HE.out.symm, _, rfl⟩
    · obtain ⟨k, rfl⟩ : ∃ k : Nat, i = (fr : Int) + 1 + (k : Int) := ⟨(i - fr - 1).toNat, by omega⟩
      have hd2 : decide ((fr : Int) + 1 + (k : Int) ≤ (fr : Int) + (ss.length : Int)) = true := by simp; omega
      have hk : k < ss.length := by omega
      obtain ⟨o, ho⟩ : ∃ o, ss[k]? = some o := ⟨_, List.getElem?_eq_getElem hk⟩
      have HE := Lib.hid (show Wd.hasB fr ss ((fr : Int) + 1 + (k : Int)) = o.isSome by
        have e : ((fr : Int) + 1 + (k : Int)) = ((fr + 1 + k : Nat) : Int) := by omega
        rw [e, Wd.hasB_at hk]
        rw [List.getElem?_eq_getElem hk] at ho
        injection ho with ho
        rw [ho])
      have HT := Lib.hid (fun k => winTop (w.drewN k) (HW.out.drewN k))
      have HP := Lib.hid (fun m => winPlace (w.drewN m) (HW.out.drewN m) k (by have := hfit.out; unfold FitB; omega))
      obtain ⟨g, oo, cur, rfl, _, _, _, _⟩ := h2.addr (by have := h2.le; omega)
      have hcell := (h2.cell (i := k * 8 + 7) (by omega)).trans (cellsE_at (q := 7) (v := .bool o.isSome) ho (by cases o <;> rfl))
      rw [← Nat.add_assoc] at hcell
      have hkn : k < n := by omega
      clear h h2 hi hj hfit hn ho hk
      go_enter Try.func37, Try.ntmps37
      go_wp2
      go_quiet ((first | (go_at_call 38; exact Calls.quiet_of (HT.out _)) | (go_at_call 39; exact quiet_leftE (HP.out _))))
      go_wp2
      go_ret
      exact ⟨ret_bool HE.out.symm, _, rfl⟩
end

abbrev zeroCA : CA := ⟨none, 0, none, 0, none, 0⟩
/-- what stands at i -/
def winAt (fr : Nat) (ss : List (Option VE)) (i : Int) : Option VE := if (fr : Int) < i then ss[(i - fr - 1).toNat]?.join else none
theorem winAt_has (fr : Nat) (ss : List (Option VE)) (i : Int) : Wd.hasB fr ss i = (winAt fr ss i).isSome := by
  unfold winAt
  by_cases hi : (fr : Int) < i
  · rw [if_pos hi]
    by_cases hj : ((fr + ss.length : Nat) : Int) < i
    · rw [Wd.hasB_far hj, List.getElem?_eq_none (by omega)]; rfl
    · obtain ⟨k, rfl⟩ : ∃ k : Nat, i = ((fr + 1 + k : Nat) : Int) := ⟨(i - fr - 1).toNat, by omega⟩
      have hk : k < ss.length := by omega
      rw [Wd.hasB_at hk, show (((fr + 1 + k : Nat) : Int) - fr - 1).toNat = k by omega, List.getElem?_eq_getElem hk]; rfl
  · rw [if_neg hi, Wd.hasB_no (by omega)]; rfl
set_option maxHeartbeats 4000000 in
set_option maxRecDepth 100000 in
theorem winGet (w : World) {b fr wh n c : Nat} {A : Option Addr} {ss : List (Option VE)} (h : WinE w b fr wh A n c ss) (i : Int) {r : Option VE} (hr : winAt fr ss i = r) :
    Calls Try.prog 36 #[.pointer (some ⟨b, 0, none⟩), .int .i64 i] w fun en w' => en = .returned (.tuple #[.agg (entC (r.getD (zeroCA, En.zero)).1 (r.getD (zeroCA, En.zero)).2), .bool r.isSome]) ∧ Below w.heap.size w w' := by
  have HR := Lib.hid hr
  have HW0 := Lib.hid h
  clear h hr
  go_enter Try.func36, Try.ntmps36
  go_upto_region 1 with fail
  obtain ⟨g4, w1, hgE, hwE, hbE, hkE⟩ := alloced w #[.int .i64 0, .int .i64 0, .int .i64 0, .int .i64 0, .slice none 0 0, .slice none 0 0, .slice none 0 0] 30
  rw [hgE, hwE]
  have HBE := Lib.hid hbE
  have HKE := Lib.hid hkE
  have HG4 := Lib.hid hgE
  have HW := Lib.hid (HW0.out.below hbE)
  clear hgE hwE hbE hkE HW0
  have HC := Lib.hid (winHas w1 HW.out i)
  rw [winAt_has, HR.out] at HC
  cases r with
  | none =>
    go_upto_region 2 with (first
      | (go_at_call 37; refine HC.out.mono ?_; rintro en w2 ⟨rfl, m, hm⟩
         have HB2 := Lib.hid (show Below w1.heap.size w1 w2 by rw [hm]; exact below_drewN (Below.refl _ _) m)
         clear hm)
      | fail)
    have HK2 := Lib.hid (HKE.out.below HB2.out)
    have HBB := Lib.hid (HBE.out.trans (HB2.out.mono HBE.out.size))
    clear HB2 HKE HBE HC
    go_wp2_with (first
      | (refine wpList_load_row rfl 30 (.tmp 11) rfl w2.heap.size rfl 30 #[.int .i64 0, .int .i64 0, .int .i64 0, .int .i64 0, .slice none 0 0, .slice none 0 0, .slice none 0 0] (0, 0) _ (Blk.new w2 30 _) Try.underlying30 rfl (by kernel_rfl) ?_)
      | (refine wpList_store_row rfl 30 (.tmp 4) (.tmp 12) rfl g4 #[.int .i64 0, .int .i64 0, .int .i64 0, .int .i64 0, .slice none 0 0, .slice none 0 0, .slice none 0 0] rfl rfl 30 #[.int .i64 0, .int .i64 0, .int .i64 0, .int .i64 0, .slice none 0 0, .slice none 0 0, .slice none 0 0] (HK2.out.alloc _) (by kernel_rfl) rfl (by kernel_rfl) ?_)
      | fail)
    refine bodyPost_ret (results_cell_tmp rfl _ _ _ _ _ _ rfl (Blk.row (HK2.out.alloc _) #[.int .i64 0, .int .i64 0, .int .i64 0, .int .i64 0, .slice none 0 0, .slice none 0 0, .slice none 0 0]) Try.underlying30 rfl (by kernel_rfl)) rfl ?_
    exact ⟨rfl, below_setRow (HBB.out.alloc HBB.out.size _) (by have := HG4.out; omega) _⟩
  | some v =>
    obtain ⟨ca, e⟩ := v
    have hlt : (fr : Int) < i := by
      have := HR.out
      unfold winAt at this
      split at this
      · assumption
      · cases this
    obtain ⟨k, rfl⟩ : ∃ k : Nat, i = (fr : Int) + 1 + (k : Int) := ⟨(i - fr - 1).toNat, by omega⟩
    have hk : ss[k]? = some (some (ca, e)) := by
      have := HR.out
      unfold winAt at this
      rw [if_pos hlt, show ((fr : Int) + 1 + (k : Int) - fr - 1).toNat = k by omega] at this
      exact Wd.join_some.1 this
    have hks : k < ss.length := (List.getElem?_eq_some_iff.1 hk).1
    have hkn : k < n := by rw [← HW.out.len]; exact hks
    have HKS := Lib.hid hk
    clear hlt hk hks
    go_upto_region 3 with (first
      | (go_at_call 37; refine HC.out.mono ?_; rintro en w2 ⟨rfl, m, hm⟩
         have HB2 := Lib.hid (show Below w1.heap.size w1 w2.drew by rw [hm]; exact (below_drewN (Below.refl _ _) m).drew)
         clear hm)
      | fail)
    obtain ⟨w4, hw4⟩ : ∃ w4, w4 = w2.drew := ⟨_, rfl⟩
    rw [← hw4] at HB2
    have HW4 := Lib.hid (HW.out.below HB2.out)
    have HK4 := Lib.hid (HKE.out.below HB2.out)
    have HB4 := Lib.hid (HBE.out.trans (HB2.out.mono HBE.out.size))
    clear HB2 HKE HBE HC HW
    obtain ⟨g, oo, cur, rfl, _, hgb, _, _⟩ := HW4.out.row.addr (by have := HW4.out.row.le; omega)
    have hne : g4 ≠ g := HK4.out.apart hgb (by decide)
    have hrg : w4.rangeAt g (oo + k * 8) (entL ca e) := fun q v hv => by
      have hq : q < 7 := by
        rcases Nat.lt_or_ge q 7 with h' | h'
        · exact h'
        · rw [List.getElem?_eq_none (by simpa [entL] using h')] at hv; cases hv
      have := HW4.out.row.cell (i := k * 8 + q) (by omega)
      rw [Nat.add_assoc, this]
      refine cellsE_at HKS.out ?_
      have : (slotL (some (ca, e)))[q]? = (entL ca e)[q]? := by
        rw [show slotL (some (ca, e)) = entL ca e ++ [.bool true] from rfl, List.getElem?_append_left (by simpa [entL] using hq)]
      rw [this, hv]
    have hS : w4.cell? ⟨b, 2, none⟩ = some (.slice (some ⟨g, oo, none⟩) n c) ∧ w4.rangeAt g (oo + k * 8) (entL ca e) := ⟨HW4.out.blk.cell 2, hrg⟩
    have HS := Lib.hid hS
    refine wp_region_held_drew (S := fun wq => wq.cell? ⟨b, 2, none⟩ = some (.slice (some ⟨g, oo, none⟩) n c) ∧ wq.rangeAt g (oo + k * 8) (entL ca e)) (by kernel_rfl) (by rw [← hw4]; exact hS) (fun _ => ?_)
    rw [← hw4]
    clear hw4 hrg hS hgb
    refine wpAnyH_take (i := 0) (v := .pointer (some ⟨b, 0, none⟩)) rfl (by kernel_rfl) (by kernel_rfl) (by kernel_rfl) (fun _ _ _ h => h) (Or.inl ⟨by kernel_rfl, fun w _ => by go_simp⟩) HS.out ?_
    refine wpAnyH_take (i := 1) (v := .pointer (some ⟨b, 0, none⟩)) rfl (by kernel_rfl) (by kernel_rfl) (by kernel_rfl) (fun _ _ _ h => h) (Or.inl ⟨by kernel_rfl, fun w _ => by go_simp⟩) HS.out ?_
    refine wpAnyH_take (i := 2) (v := .pointer (some ⟨b, 2, none⟩)) rfl (by kernel_rfl) (by kernel_rfl) (by kernel_rfl) (fun _ _ _ h => h) (Or.inl ⟨by kernel_rfl, fun w _ => by go_simp⟩) HS.out ?_
    refine wpAnyH_take (i := 3) (v := .slice (some ⟨g, oo, none⟩) n c) rfl (by kernel_rfl) (by kernel_rfl) (by kernel_rfl) (fun _ _ _ h => h) (Or.inl ⟨by kernel_rfl, fun wq h => by obtain ⟨h, _⟩ := h; go_simp⟩) HS.out ?_
    refine wpAnyH_take (i := 4) (v := .pointer (some ⟨b, 0, none⟩)) rfl (by kernel_rfl) (by kernel_rfl) (by kernel_rfl) (fun _ _ _ h => h) (Or.inl ⟨by kernel_rfl, fun w _ => by go_simp⟩) HS.out ?_
    refine wpAnyH_take (i := 5) (v := .int .i64 ((fr : Int) + 1 + (k : Int))) rfl (by kernel_rfl) (by kernel_rfl) (by kernel_rfl) (fun _ _ _ h => h) (Or.inl ⟨by kernel_rfl, fun w _ => by go_simp⟩) HS.out ?_
    refine wpAnyH_ready (rs := [6]) (by kernel_rfl) (by simp) ?_
    refine AllReadyH.cons rfl (fun K hK => ?_) AllReadyH.nil
    go_simp
    refine (winPlace _ HW4.out k (by have := HW4.out.fit.out; unfold FitB; omega)).mono ?_
    rintro en w3 ⟨rfl, rfl⟩
    go_simp
    refine hK.out _ _ HS.out (fun _ => ?_)
    clear hK K
    refine wpAnyH_take (i := 7) (v := .pointer (some ⟨g, oo + k * 8, none⟩)) rfl (by kernel_rfl) (by kernel_rfl) (by kernel_rfl) (fun _ _ _ h => h) (Or.inl ⟨by kernel_rfl, fun w _ => by go_simp⟩) HS.out ?_
    refine wpAnyH_take (i := 8) (v := .pointer (some ⟨g, oo + k * 8, none⟩)) rfl (by kernel_rfl) (by kernel_rfl) (by kernel_rfl) (fun _ _ _ h => h) (Or.inl ⟨by kernel_rfl, fun w _ => by go_simp⟩) HS.out ?_
    refine wpAnyH_take (i := 9) (v := .agg (entL ca e).toArray) rfl (by kernel_rfl) (by kernel_rfl) (by kernel_rfl) (fun _ _ _ h => h) (yieldsIf_load_mid (by kernel_rfl) 30 (.tmp 21) rfl g (oo + k * 8) rfl (entL ca e) _ (fun _ h => h.2) Try.underlying30 rfl (by kernel_rfl)) HS.out ?_
    refine wpAnyH_ready (rs := [10]) (by kernel_rfl) (by simp) ?_
    refine AllReadyH.cons rfl (fun K hK => ?_) AllReadyH.nil
    refine wp_store_row 30 (.tmp 4) (.tmp 22) rfl g4 (entC ca e) rfl rfl 30 #[.int .i64 0, .int .i64 0, .int .i64 0, .int .i64 0, .slice none 0 0, .slice none 0 0, .slice none 0 0] HK4.out (by kernel_rfl) rfl (by kernel_rfl) ?_
    have hS5 : (w4.setRow g4 (entC ca e)).cell? ⟨b, 2, none⟩ = some (.slice (some ⟨g, oo, none⟩) n c) ∧ (w4.setRow g4 (entC ca e)).rangeAt g (oo + k * 8) (entL ca e) := by
      refine ⟨(HW4.out.blk.row_other (HW4.out.blk.apart HK4.out (by decide)) _).cell 2, ?_⟩
      intro q v hv
      rw [cell_setRow_other w4 g4 _ ⟨g, oo + k * 8 + q, none⟩ (Ne.symm hne)]
      exact HS.out.2 q v hv
    refine hK.out _ _ hS5 (fun _ => ?_)
    clear hK K
    refine wpAnyH_take (i := 11) (v := .bool true) rfl (by kernel_rfl) (by kernel_rfl) (by kernel_rfl) (fun _ _ _ h => h) (Or.inl ⟨by kernel_rfl, fun w _ => by go_simp⟩) hS5 ?_
    refine wpAnyH_done (by kernel_rfl) ?_ _
    go_wp2_with fail
    refine bodyPost_ret (results_cell_tmp rfl _ _ _ _ _ _ rfl (Blk.row HK4.out (entC ca e)) Try.underlying30 rfl (by kernel_rfl)) rfl ?_
    exact ⟨rfl, below_setRow HB4.out (by have := HG4.out; omega) _⟩
end Go.Proofs.Ytaknfmionkkdjaa

namespace Go.Proofs.Ytaknfmionkkdjaa
open Go.RowKit
set_option linter.unusedVariables false
theorem run_append_offB {P : Program} (w : World) (base : Nat) (t ty e : TypeId) (i : TypeInfo) (z : Value) (size bytes : Nat) (ht : P.underlying t = some (.slice e)) (hi : P.info? e = some i) (hz : i.zero = some z)
    (hsize : i.size = size) (hby : i.bytes = bytes) (hzs : z.cells.size = size)
    (A : Option Addr) (n cap : Nat) (xs : List Value) (hown : OffRow w base e size A n cap xs)
    (a : Addr) (m c : Nat) (news : List Value) (hm : 0 < m) (hl : news.length = m * size) (hnews : ∀ j u, news[j]? = some u → w.cell? (a.add j) = some u) (h1 : ∀ u ∈ news, u.oneCell' = true)
    (h63 : n + m ≤ maxLen) (hbytes : (n + m) * bytes ≤ 140737488355328) (hbase : base ≤ w.heap.size) :
    ∃ A' c' w', (Builtin.append_ #[t, t] ty #[.slice A n cap, .slice (some a) m c]).run P w = .ok (.slice A' (n + m) c') w' ∧ OffRow w' base e size A' (n + m) c' (xs ++ news) ∧ w.grownBy w' (Value.slice A n cap).ownBlock ∧ (∀ g o, A' = some ⟨g, o, none⟩ → (∃ o', A = some ⟨g, o', none⟩) ∨ w.heap.size ≤ g) := by
  subst hsize
  subst hby
  have hsmall : n + m ≤ 9223372036854775807 := by simp only [maxLen] at h63; omega
  have hlen : (xs ++ news).length = (n + m) * i.size := by rw [List.length_append, hown.len, hl, Nat.add_mul]
  have grown : ∀ (old : Nat), old < n + m → ∀ (row : Option Nat),
      OffRow (w.drew.alloc (.cells (xs.toArray ++ news.toArray ++ Builtin.zeroCells z.cells (grownCap w (n + m) old e - (n + m))) e)) base e i.size (some ⟨w.heap.size, 0, none⟩) (n + m) (grownCap w (n + m) old e) (xs ++ news) ∧
      w.grownBy (w.drew.alloc (.cells (xs.toArray ++ news.toArray ++ Builtin.zeroCells z.cells (grownCap w (n + m) old e - (n + m))) e)) row := by
    intro old ho row
    have hge := grownCap_ge w (n + m) old e
    have hcm : grownCap w (n + m) old e ≤ maxLen := grownCap_le_maxLen w (n + m) old e h63
    refine ⟨⟨hlen, hge, hcm, .inr ⟨w.heap.size, 0, _, rfl, hbase, heap_alloc_new w.drew _, ?_, fun j hj => ?_⟩⟩, ⟨rfl, rfl, rfl, by simp, fun k hk _ => heap_alloc_old' w _ k hk⟩⟩
    · simp only [Array.size_append, List.size_toArray, size_zeroCells, hzs, hown.len, hl, ← Nat.add_mul]
      have : n + m + (grownCap w (n + m) old e - (n + m)) = grownCap w (n + m) old e := by omega
      rw [this]; omega
    · have hx : xs.length = n * i.size := hown.len
      rw [Nat.add_mul] at hj
      rw [Nat.zero_add, Array.getElem?_append_left (by simp; omega)]
      simp
  have hnew : ∀ g o, some (⟨w.heap.size, 0, none⟩ : Addr) = some ⟨g, o, none⟩ → (∃ o', A = some ⟨g, o', none⟩) ∨ w.heap.size ≤ g := fun g o e => by
    injection e with e
    injection e with e _
    exact .inr (by omega)
  have hxl := hown.len
  rcases hown.blk with ⟨rfl, rfl⟩ | ⟨g, o, cur, rfl, hbg, hg, hfit, hcs⟩
  · obtain rfl : n = 0 := by have := hown.le; omega
    have hx : xs = [] := List.eq_nil_of_length_eq_zero (by simpa using hxl)
    subst hx
    have hr := run_append_nil (P := P) w t ty e i z ht hi hz a m c news hl hnews hm (by omega) (by have hb := hbytes; simp only [Nat.zero_add] at hb; omega)
    have hgr := grown 0 (by omega) (Value.ownBlock (.slice none 0 0))
    simp only [Nat.zero_add, List.nil_append, Array.empty_append] at hgr ⊢
    exact ⟨_, _, _, hr, hgr.1, hgr.2, hnew⟩
  · by_cases hroom : n + m ≤ cap
    · have hnm : (n + m) * i.size ≤ cap * i.size := Nat.mul_le_mul_right _ hroom
      rw [Nat.add_mul] at hnm
      have hf := run_firstCells_some (P := P) w i.size m a m c news hl hnews
      have hst := run_storeCells_at P g (o + n * i.size) e news 0 cur w hg (by omega) h1
      simp only [Nat.add_zero] at hst
      refine ⟨some ⟨g, o, none⟩, cap, w.setRow g (cur.toList.take (o + n * i.size) ++ news ++ cur.toList.drop (o + n * i.size + news.length)).toArray, ?_, ⟨hlen, hroom, hown.max, .inr ⟨g, o, _, rfl, hbg, setRow_heap w g cur _ e _ hg, ?_, fun j hj => ?_⟩⟩, ⟨rfl, rfl, rfl, by simp, fun k _ hk => setRow_other w g k _ (fun e => hk (by simp [Value.ownBlock, e]))⟩, fun g' o' e => ?_⟩
      · simp [Builtin.append_, run_underlying ht, sizeOf, typeInfo, hi, Builtin.lenOf, hroom, hf, addr_add, hst]
      · simp only [List.size_toArray, List.length_append, List.length_take, List.length_drop, Array.length_toList]
        omega
      · rw [Nat.add_mul] at hj
        rw [List.getElem?_toArray]
        by_cases h2 : j < n * i.size
        · rw [List.append_assoc, List.getElem?_append_left (by simp; omega), List.getElem?_take_of_lt (by omega), List.getElem?_append_left (by omega), ← hcs j h2]
          simp
        · have e1 : (cur.toList.take (o + n * i.size)).length = o + n * i.size := by simp; omega
          rw [List.append_assoc, List.getElem?_append_right (by omega), e1, show o + j - (o + n * i.size) = j - n * i.size by omega, List.getElem?_append_left (by omega), List.getElem?_append_right (l₁ := xs) (by omega), hxl]
      · exact .inl ⟨o', e⟩
    · have hr := run_append_grow (P := P) w t ty e i z ht hi hz ⟨g, o, none⟩ n cap xs hown.len (fun j u hu => by
        have hj : j < n * i.size := by rw [← hxl]; exact (List.getElem?_eq_some_iff.1 hu).1
        rw [addr_add, hown.cell hj, hu]) a m c news hl hnews (by omega) (by omega) (growslice_fits (by omega) hbytes)
      have hgr := grown cap (by omega) (Value.ownBlock (.slice (some ⟨g, o, none⟩) n cap))
      exact ⟨_, _, _, hr, hgr.1, hgr.2, hnew⟩
/-- the same, for the walk -/
theorem wpList_append_offB {P : Program} {t e : TypeId} {z : Value} {size bytes base : Nat} {w : World} (hU : P.underlying t = some (.slice e)) (hI : (P.info? e).map (fun i => (i.zero, i.size, i.bytes)) = some (some z, size, bytes)) (hzs : z.cells.size = size)
    {ops : Array Oper} {rest : List Oper} {o : Oper} {a : Act} {Q : Exit → Act → World → Prop} (s x : Operand)
    (ho : o.op = .call { callee := .builtin .append, args := #[s, x], argTypes := #[t, t] }) (hw : Region.wanted o (yielded ops a.tmps) = true)
    {A : Option Addr} {n c : Nat} {xs : List Value} (hs : a.eval s = .slice A n c) (hown : OffRow w base e size A n c xs)
    {ad : Addr} {m c' : Nat} {news : List Value} (hx : a.eval x = .slice (some ad) m c') (hm : 0 < m) (hl : news.length = m * size) (hnews : ∀ j u, news[j]? = some u → w.cell? (ad.add j) = some u) (h1 : ∀ u ∈ news, u.oneCell' = true)
    (hnm : n + m ≤ 1000000000) (hby : bytes ≤ 1000) (hbase : base ≤ w.heap.size)
    (h : ∀ A2 c2 w2, OffRow w2 base e size A2 (n + m) c2 (xs ++ news) → w.grownBy w2 (Value.slice A n c).ownBlock → (∀ g o, A2 = some ⟨g, o, none⟩ → (∃ o', A = some ⟨g, o', none⟩) ∨ w.heap.size ≤ g) → wpList P ops Q rest (a.put o.dst (.slice A2 (n + m) c2)) w2) :
    wpList P ops Q (o :: rest) a w := by
  obtain ⟨i, hi, hz, hsz, hbi⟩ := info_parts hI
  obtain ⟨A2, c2, w2, hrun, h2, h3, h4⟩ := run_append_offB (P := P) w base t o.type e i z size bytes hU hi hz hsz hbi hzs A n c xs hown ad m c' news hm hl hnews h1
    (by unfold maxLen; omega) (by have := Nat.mul_le_mul hnm hby; omega) hbase
  have hgo := h A2 c2 w2 h2 h3 h4
  unfold wpList
  rw [if_pos hw]
  refine Or.inl ?_
  unfold Oper.wp execOp
  simp only [ho, resolve, invoke, builtin, Sem.run_bind, Sem.run_pure, Result.andThen_ok, List.map_toArray, List.map_cons, List.map_nil, hs, hx, hrun]
  exact hgo
theorem run_max0B {P : Program} (w : World) (ts : Array TypeId) (t : TypeId) (n : Int) :
    (Builtin.max_ ts t #[.int .i64 n, .int .i64 0]).run P w = .ok (.int .i64 (max n 0)) w := by
  have e : max n 0 = if (n : Int) < 0 then 0 else n := by omega
  rw [e]
  simp [Builtin.max_, Builtin.max2]
/-- the number that a window begins behind -/
def heldB (n : Int) : Nat := (min (max n 0) 1099511627776).toNat
theorem run_min40B {P : Program} (w : World) (ts : Array TypeId) (t : TypeId) (n : Int) :
    (Builtin.min_ ts t #[.int .i64 (max n 0), .int .i64 1099511627776]).run P w = .ok (.int .i64 (heldB n : Nat)) w := by
  have e : ((heldB n : Nat) : Int) = if (1099511627776 : Int) < max n 0 then 1099511627776 else max n 0 := by unfold heldB; omega
  rw [e]
  simp [Builtin.min_, Builtin.min2]
theorem winNew (w : World) (n : Int) :
    Calls Try.prog 25 #[.int .i64 n] w fun e w' => ∃ b, e = .returned (.pointer (some ⟨b, 0, none⟩)) ∧ WinE w' b (heldB n) (heldB n) none 0 0 [] ∧ w.heap.size ≤ b ∧ Below w.heap.size w w' := by
  have h1 := fun (w : World) ts t => run_max0B (P := Try.prog) w ts t n
  have h2 := fun (w : World) ts t => run_min40B (P := Try.prog) w ts t n
  go_enter Try.func25, Try.ntmps25
  go_wp2
  go_ret
  exact ⟨_, rfl, ⟨Blk.new _ _ _, OffRow.nil _ _ _ _, by unfold FitB heldB; omega, by simp⟩, Nat.le_refl _, (Below.refl _ _).alloc (Nat.le_refl _) _⟩
theorem Keeps.of_grown {S : Nat → Prop} {w w' : World} {row : Option Nat} (h : w.grownBy w' row) (hs : ∀ g, row = some g → S g) : Keeps S w w' :=
  ⟨h.os, h.tape, h.output, h.size, fun k hk hn => h.block k hk (fun e => hn (hs k e.symm))⟩
theorem Adv.blk {S S' : Nat → Prop} {T : List TypeId} {w w' : World} {g : Nat} {t : TypeId} {cs : Array Value} (h : Adv S w S' w') (ho : Of S T w) (hb : Blk w g t cs) (ht : t ∉ T) : Blk w' g t cs := hb.keeps h.keeps (ho.not hb ht)
section
variable {w w' : World} {b fr wh n c : Nat} {A : Option Addr} {ss : List (Option VE)}
/-- the window's own cells are turned -/
theorem WinE.win (h : WinE w b fr wh A n c ss) {fr' wh' : Nat} (hg : w.grownBy w' (some b)) (hb : Blk w' b 80 #[.int .i64 (fr' : Int), .int .i64 (wh' : Int), .slice A n c]) (hf : FitB (fr' + n)) : WinE w' b fr' wh' A n c ss ∧ Adv (winS b A) w (winS b A) w' := by
  have hk : Keeps (winS b A) w w' := Keeps.of_grown hg (fun g e => by injection e with e; exact .inl e.symm)
  refine ⟨⟨hb, h.row.grown hg (fun g o e => ?_), hf, fun a e he => (h.ent a e he).keeps hk h.of (by decide)⟩, hk, fun q hq => .inl hq⟩
  subst e
  obtain ⟨cur, hgb⟩ := h.row.blkAt
  intro e
  injection e with e
  exact (h.blk.apart hgb (by decide)) e.symm
/-- a slot is set -/
theorem WinE.slot {g oo k : Nat} {ca : CA} {e : En} (h : WinE w b fr wh (some ⟨g, oo, none⟩) n c ss) (hk : k < n) (hr : RdC9 w ca e.c) :
    WinE (w.setCells g (oo + k * 8) (slotL (some (ca, e)))) b fr wh (some ⟨g, oo, none⟩) n c (ss.set k (some (ca, e))) ∧ Adv (winS b (some ⟨g, oo, none⟩)) w (winS b (some ⟨g, oo, none⟩)) (w.setCells g (oo + k * 8) (slotL (some (ca, e)))) := by
  obtain ⟨cur, hgb⟩ := h.row.blkAt
  have hg := grown_setCells g (slotL (some (ca, e))) (oo + k * 8) w
  have hrow := OffRow.setCells (slotL (some (ca, e))) (k * 8) w _ h.row (by rw [slotL_length]; omega)
  rw [cellsE_set _ _ _ (by rw [h.len]; exact hk)] at hrow
  generalize w.setCells g (oo + k * 8) (slotL (some (ca, e))) = w5 at hg hrow ⊢
  have hkp : Keeps (winS b (some ⟨g, oo, none⟩)) w w5 := Keeps.of_grown hg (fun q e => by injection e with e; exact .inr ⟨g, oo, rfl, e.symm⟩)
  refine ⟨⟨h.blk.grown hg (fun e => h.blk.apart hgb (by decide) (by injection e)), hrow, h.fit, fun a' e' he => ?_⟩, hkp, fun q hq => .inl hq⟩
  rcases List.mem_or_eq_of_mem_set he with h1 | h1
  · exact (h.ent a' e' h1).keeps hkp h.of (by decide)
  · injection h1 with h1
    injection h1 with h1 h2
    subst h1 h2
    exact hr.keeps hkp h.of (by decide)
/-- a slot more, not filled; the window knows -/
theorem WinE.more {ob : Obj} {A3 : Option Addr} {c3 : Nat} {w3 : World} (h : WinE w b fr wh A n c ss) (hrow : OffRow w3 0 83 8 A3 (n + 1) c3 (cellsE ss ++ slotL none)) (hg : (w.alloc ob).grownBy w3 (Value.slice A n c).ownBlock) (hl : ∀ g o, A3 = some ⟨g, o, none⟩ → (∃ o', A = some ⟨g, o', none⟩) ∨ (w.alloc ob).heap.size ≤ g) (hf : FitB (fr + n + 1)) :
    Blk w3 b 80 #[.int .i64 (fr : Int), .int .i64 (wh : Int), .slice A n c] ∧ WinE (w3.setCell ⟨b, 2, none⟩ (.slice A3 (n + 1) c3)) b fr wh A3 (n + 1) c3 (ss ++ [none]) ∧ Adv (winS b A) w (winS b A3) (w3.setCell ⟨b, 2, none⟩ (.slice A3 (n + 1) c3)) := by
  have hba : Below w.heap.size w (w.alloc ob) := (Below.refl _ _).alloc (Nat.le_refl _) _
  have h1 := h.below hba
  have k1 : Keeps (winS b A) (w.alloc ob) w3 := Keeps.of_grown hg (fun g e => by
    cases A with
    | none => simp [Value.ownBlock] at e
    | some a => obtain ⟨ga, oa, pa⟩ := a; simp [Value.ownBlock] at e
                rcases h.row.blk with ⟨q, _⟩ | ⟨g', o', cur, q, _⟩
                · cases q
                · injection q with q; injection q with q1 q2 q3; subst q1 q2 q3; exact .inr ⟨_, _, rfl, e.symm⟩)
  have hb3 : Blk w3 b 80 #[.int .i64 (fr : Int), .int .i64 (wh : Int), .slice A n c] := by
    refine h1.blk.grown hg ?_
    rcases h.row.blk with ⟨rfl, _⟩ | ⟨g', o', cur, rfl, _, hgb, _⟩
    · simp [Value.ownBlock]
    · intro e
      have e : b = g' := by simpa [Value.ownBlock] using e
      exact h.blk.apart hgb (by decide) e
  have g2 := grown_set w3 b 2 (.slice A3 (n + 1) c3)
  have k2 : Keeps (fun k => k = b) w3 (w3.setCell ⟨b, 2, none⟩ (.slice A3 (n + 1) c3)) := Keeps.of_grown g2 (fun g e => by injection e with e; exact e.symm)
  have of2 : Of (fun k => k = b) TB w3 := fun k hk _ => by subst hk; exact ⟨_, _, _, hb3, by simp⟩
  refine ⟨hb3, ⟨hb3.set_ 2 _, ?_, by have := hf.out; unfold FitB; omega, fun a e he => ?_⟩, ?_, ?_⟩
  · have hx : cellsE (ss ++ [none]) = cellsE ss ++ slotL none := by rw [cellsE_append]; simp [cellsE]
    rw [hx]
    refine hrow.grown g2 (fun g o e => ?_)
    subst e
    obtain ⟨cur, hgb⟩ := hrow.blkAt
    intro e
    injection e with e
    exact (hb3.apart hgb (by decide)) e.symm
  · have he' : some (a, e) ∈ ss := by simpa using he
    exact ((h1.ent a e he').keeps k1 h1.of (by decide)).keeps k2 of2 (by decide)
  · exact ((Keeps.of_below hba : Keeps (winS b A) w _).trans k1 (fun k hk _ => hk)).trans k2 (fun k hk _ => .inl hk)
  · rintro q (rfl | ⟨g, o, e, rfl⟩)
    · exact .inl (.inl rfl)
    · rcases hl q o e with ⟨o', h'⟩ | h'
      · exact .inl (.inr ⟨q, o', h', rfl⟩)
      · exact .inr (Nat.le_trans hba.size h')
/-- how many slots there are, and the mark, as the world tells -/
def winLenE (w : World) (b : Nat) : Nat := match w.cell? ⟨b, 2, none⟩ with | some (.slice _ n _) => n | _ => 0
def winMarkE (w : World) (b : Nat) : Nat := match w.cell? ⟨b, 1, none⟩ with | some v => (intOf v).toNat | _ => 0
theorem winLenE_of (h : WinE w b fr wh A n c ss) : winLenE w b = n := by
  unfold winLenE
  rw [h.blk.cell 2]
  rfl
theorem winMarkE_of (h : WinE w b fr wh A n c ss) : winMarkE w b = wh := by
  unfold winMarkE
  rw [h.blk.cell 1]
  simp [intOf]
end
end Go.Proofs.Ytaknfmionkkdjaa

