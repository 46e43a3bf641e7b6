/- BookWin1 BookWin2 BookWin3 -/
import Derived.Test.YtaknfmionkkdjaaGreatFO37
import Derived.Test.YtaknfmionkkdjaaGreatFO38
import Derived.Below
import Derived.BigQuiet
import Derived.Deep.QuietTactic
import Derived.Deep.RegionWith
import Derived.IntWalk
import Derived.Outline
import Derived.OwnWalk
import Derived.ProofKit
import Derived.Test.YtaknfmionkkdjaaGreatRows
import Derived.WalkKit
import Derived.WalkLawsBesides
import Derived.WalkSmall
import Derived.WalkSpells
import Derived.Deep.CutBlock
import Derived.Deep.DeepCutAuto
import Derived.Deep.DrawnRows
import Derived.Deep.RegionHeld3
import Derived.RegionTactic
namespace Go.Proofs.YtaknfmionkkdjaaGreat
open Go.RowKit
set_option linter.unusedVariables false
theorem quiet_leftE {P : Program} {f : FuncId} {args : Array Value} {w : World} {n : Nat} {v : Value}
    (h : Calls P f args (w.drewN n) fun e w' => e = .returned v ∧ w.drewN n = w') : Calls P f args (w.drewN n) fun e w'' => e = .returned v ∧ ∃ m, w'' = w.drewN m :=
  h.mono fun _ _ ⟨he, hm⟩ => ⟨he, n, hm.symm⟩
section
variable (w : World) {b fr wh n c : Nat} {A : Option Addr} {ss : List (Option VE)} (h : WinE w b fr wh A n c ss)
include h
theorem winFrom : Calls Tryz.prog 46 #[.pointer (some ⟨b, 0, none⟩)] w fun e w' => e = .returned (.int .i64 (fr : Int)) ∧ w = w' := by
  have hc := h.blk.cell 0
  simp at hc
  clear h
  go_enter Tryz.func46, Tryz.ntmps46
  go_wp2
  go_ret
  exact ⟨rfl, rfl⟩
theorem winWhole : Calls Tryz.prog 47 #[.pointer (some ⟨b, 0, none⟩)] w fun e w' => e = .returned (.int .i64 (wh : Int)) ∧ w = w' := by
  have hc := h.blk.cell 1
  simp at hc
  clear h
  go_enter Tryz.func47, Tryz.ntmps47
  go_wp2
  go_ret
  exact ⟨rfl, rfl⟩
theorem winPlace (k : Nat) (hk : FitB (fr + k)) :
    Calls Tryz.prog 51 #[.pointer (some ⟨b, 0, none⟩), .int .i64 ((fr : Int) + 1 + (k : Int))] w fun e w' => e = .returned (.int .i64 (k : Int)) ∧ w = w' := by
  have hc := h.blk.cell 0
  simp at hc
  have hk1 := hk.out
  have e1 : IntKind.i64.wrap ((fr : Int) + 1 + (k : Int) - fr) = 1 + (k : Int) := by rw [IntWalk.i64_in _ (by omega)]; omega
  have e2 : IntKind.i64.wrap (1 + (k : Int) - 1) = (k : Int) := by rw [IntWalk.i64_in _ (by omega)]; omega
  clear h hk hk1
  go_enter Tryz.func51, Tryz.ntmps51
  go_wp2
  go_ret
  exact ⟨by first | rfl | (rw [e1, e2]), rfl⟩
theorem winTop : Calls Tryz.prog 50 #[.pointer (some ⟨b, 0, none⟩)] w fun e w' => e = .returned (.int .i64 ((fr : Int) + (ss.length : Int))) ∧ ∃ n, w' = w.drewN n := by
  have hc0 := h.blk.cell 0
  have hc2 := h.blk.cell 2
  simp at hc0 hc2
  have hn := Lib.hid h.len
  have hb : (fr : Int) + (n : Int) ≤ 2000000000000 := by have := h.fit.out; omega
  have hE := Lib.hid (show ((fr : Int) + (n : Int)) = (fr : Int) + (ss.length : Int) by have := hn.out; omega)
  clear h
  go_enter Tryz.func50, Tryz.ntmps50
  go_wp2
  go_quiet (fail)
  go_wp2
  go_ret
  exact ⟨ret_int hE.out, _, rfl⟩
theorem winHas (i : Int) : Calls Tryz.prog 49 #[.pointer (some ⟨b, 0, none⟩), .int .i64 i] w fun e w' => e = .returned (.bool (Wd.hasB fr ss i)) ∧ ∃ n, w' = w.drewN n := by
  have HW := Lib.hid h
  have hc0 := h.blk.cell 0
  have hc2 := h.blk.cell 2
  simp at hc0 hc2
  have hn := h.len
  have hfit := h.fit
  have h2 := h.row
  by_cases hi : i ≤ fr
  · have HE := Lib.hid (Wd.hasB_no (ss := ss) hi)
    have hd : decide ((fr : Int) < i) = false := by simp; omega
    clear h h2 hn hc2 hi hfit
    go_enter Tryz.func49, Tryz.ntmps49
    go_wp2
    go_quiet (fail)
    go_wp2
    go_ret
    exact ⟨ret_bool HE.out.symm, _, rfl⟩
  · have hd : decide ((fr : Int) < i) = true := by simp; omega
    by_cases hj : ((fr + ss.length : Nat) : Int) < i
    · have HE := Lib.hid (Wd.hasB_far (ss := ss) hj)
      have hd2 : decide (i ≤ (fr : Int) + (ss.length : Int)) = false := by simp; omega
      have HT := Lib.hid (fun k => winTop (w.drewN k) (HW.out.drewN k))
      clear h h2 hn hc2 hi hj hfit
      go_enter Tryz.func49, Tryz.ntmps49
      go_wp2
      go_quiet ((go_at_call 50; exact Calls.quiet_of (HT.out _)))
      go_wp2
      go_ret
      exact ⟨ret_bool HE.out.symm, _, rfl⟩
    · obtain ⟨k, rfl⟩ : ∃ k : Nat, i = (fr : Int) + 1 + (k : Int) := ⟨(i - fr - 1).toNat, by omega⟩
      have hd2 : decide ((fr : Int) + 1 + (k : Int) ≤ (fr : Int) + (ss.length : Int)) = true := by simp; omega
      have hk : k < ss.length := by omega
      obtain ⟨o, ho⟩ : ∃ o, ss[k]? = some o := ⟨_, List.getElem?_eq_getElem hk⟩
      have HE := Lib.hid (show Wd.hasB fr ss ((fr : Int) + 1 + (k : Int)) = o.isSome by
        have e : ((fr : Int) + 1 + (k : Int)) = ((fr + 1 + k : Nat) : Int) := by omega
        rw [e, Wd.hasB_at hk]
        rw [List.getElem?_eq_getElem hk] at ho
        injection ho with ho
        rw [ho])
      have HT := Lib.hid (fun k => winTop (w.drewN k) (HW.out.drewN k))
      have HP := Lib.hid (fun m => winPlace (w.drewN m) (HW.out.drewN m) k (by have := hfit.out; unfold FitB; omega))
      obtain ⟨g, oo, cur, rfl, _, _, _, _⟩ := h2.addr (by have := h2.le; omega)
      have hcell := (h2.cell (i := k * 8 + 7) (by omega)).trans (cellsE_at (q := 7) (v := .bool o.isSome) ho (by cases o <;> rfl))
      rw [← Nat.add_assoc] at hcell
      have hkn : k < n := by omega
      clear h h2 hi hj hfit hn ho hk
      go_enter Tryz.func49, Tryz.ntmps49
      go_wp2
      go_quiet ((first | (go_at_call 50; exact Calls.quiet_of (HT.out _)) | (go_at_call 51; exact quiet_leftE (HP.out _))))
      go_wp2
      go_ret
      exact ⟨ret_bool HE.out.symm, _, rfl⟩
end

abbrev zeroCA : CA := ⟨none, 0, none, 0, none, 0⟩
/-- what stands at i -/
def winAt (fr : Nat) (ss : List (Option VE)) (i : Int) : Option VE := if (fr : Int) < i then ss[(i - fr - 1).toNat]?.join else none
theorem winAt_has (fr : Nat) (ss : List (Option VE)) (i : Int) : Wd.hasB fr ss i = (winAt fr ss i).isSome := by
  unfold winAt
  by_cases hi : (fr : Int) < i
  · rw [if_pos hi]
    by_cases hj : ((fr + ss.length : Nat) : Int) < i
    · rw [Wd.hasB_far hj, List.getElem?_eq_none (by omega)]; rfl
    · obtain ⟨k, rfl⟩ : ∃ k : Nat, i = ((fr + 1 + k : Nat) : Int) := ⟨(i - fr - 1).toNat, by omega⟩
      have hk : k < ss.length := by omega
      rw [Wd.hasB_at hk, show (((fr + 1 + k : Nat) : Int) - fr - 1).toNat = k by omega, List.getElem?_eq_getElem hk]; rfl
  · rw [if_neg hi, Wd.hasB_no (by omega)]; rfl
set_option maxHeartbeats 4000000 in
set_option maxRecDepth 100000 in
theorem winGet (w : World) {b fr wh n c : Nat} {A : Option Addr} {ss : List (Option VE)} (h : WinE w b fr wh A n c ss) (i : Int) {r : Option VE} (hr : winAt fr ss i = r) :
    Calls Tryz.prog 45 #[.pointer (some ⟨b, 0, none⟩), .int .i64 i] w fun en w' => en = .returned (.tuple #[.agg (entC (r.getD (zeroCA, En.zero)).1 (r.getD (zeroCA, En.zero)).2), .bool r.isSome]) ∧ Below w.heap.size w w' := by
  have HR := Lib.hid hr
  have HW0 := Lib.hid h
  clear h hr
  go_enter Tryz.func45, Tryz.ntmps45
  go_upto_region 1 with fail
  obtain ⟨g4, w1, hgE, hwE, hbE, hkE⟩ := alloced w #[.int .i64 0, .int .i64 0, .int .i64 0, .int .i64 0, .slice none 0 0, .slice none 0 0, .slice none 0 0] 40
  rw [hgE, hwE]
  have HBE := Lib.hid hbE
  have HKE := Lib.hid hkE
  have HG4 := Lib.hid hgE
  have HW := Lib.hid (HW0.out.below hbE)
  clear hgE hwE hbE hkE HW0
  have HC := Lib.hid (winHas w1 HW.out i)
  rw [winAt_has, HR.out] at HC
  cases r with
  | none =>
    go_upto_region 2 with (first
      | (go_at_call 49; refine HC.out.mono ?_; rintro en w2 ⟨rfl, m, hm⟩
         have HB2 := Lib.hid (show Below w1.heap.size w1 w2 by rw [hm]; exact below_drewN (Below.refl _ _) m)
         clear hm)
      | fail)
    have HK2 := Lib.hid (HKE.out.below HB2.out)
    have HBB := Lib.hid (HBE.out.trans (HB2.out.mono HBE.out.size))
    clear HB2 HKE HBE HC
    go_wp2_with (first
      | (refine wpList_load_row rfl 40 (.tmp 11) rfl w2.heap.size rfl 40 #[.int .i64 0, .int .i64 0, .int .i64 0, .int .i64 0, .slice none 0 0, .slice none 0 0, .slice none 0 0] (0, 0) _ (Blk.new w2 40 _) Tryz.underlying40 rfl (by kernel_rfl) ?_)
      | (refine wpList_store_row rfl 40 (.tmp 4) (.tmp 12) rfl g4 #[.int .i64 0, .int .i64 0, .int .i64 0, .int .i64 0, .slice none 0 0, .slice none 0 0, .slice none 0 0] rfl rfl 40 #[.int .i64 0, .int .i64 0, .int .i64 0, .int .i64 0, .slice none 0 0, .slice none 0 0, .slice none 0 0] (HK2.out.alloc _) (by kernel_rfl) rfl (by kernel_rfl) ?_)
      | fail)
    refine bodyPost_ret (results_cell_tmp rfl _ _ _ _ _ _ rfl (Blk.row (HK2.out.alloc _) #[.int .i64 0, .int .i64 0, .int .i64 0, .int .i64 0, .slice none 0 0, .slice none 0 0, .slice none 0 0]) Tryz.underlying40 rfl (by kernel_rfl)) rfl ?_
    exact ⟨rfl, below_setRow (HBB.out.alloc HBB.out.size _) (by have := HG4.out; omega) _⟩
  | some v =>
    obtain ⟨ca, e⟩ := v
    have hlt : (fr : Int) < i := by
      have := HR.out
      unfold winAt at this
      split at this
      · assumption
      · cases this
    obtain ⟨k, rfl⟩ : ∃ k : Nat, i = (fr : Int) + 1 + (k : Int) := ⟨(i - fr - 1).toNat, by omega⟩
    have hk : ss[k]? = some (some (ca, e)) := by
      have := HR.out
      unfold winAt at this
      rw [if_pos hlt, show ((fr : Int) + 1 + (k : Int) - fr - 1).toNat = k by omega] at this
      exact Wd.join_some.1 this
    have hks : k < ss.length := (List.getElem?_eq_some_iff.1 hk).1
    have hkn : k < n := by rw [← HW.out.len]; exact hks
    have HKS := Lib.hid hk
    clear hlt hk hks
    go_upto_region 3 with (first
      | (go_at_call 49; refine HC.out.mono ?_; rintro en w2 ⟨rfl, m, hm⟩
         have HB2 := Lib.hid (show Below w1.heap.size w1 w2.drew by rw [hm]; exact (below_drewN (Below.refl _ _) m).drew)
         clear hm)
      | fail)
    obtain ⟨w4, hw4⟩ : ∃ w4, w4 = w2.drew := ⟨_, rfl⟩
    rw [← hw4] at HB2
    have HW4 := Lib.hid (HW.out.below HB2.out)
    have HK4 := Lib.hid (HKE.out.below HB2.out)
    have HB4 := Lib.hid (HBE.out.trans (HB2.out.mono HBE.out.size))
    clear HB2 HKE HBE HC HW
    obtain ⟨g, oo, cur, rfl, _, hgb, _, _⟩ := HW4.out.row.addr (by have := HW4.out.row.le; omega)
    have hne : g4 ≠ g := HK4.out.apart hgb (by decide)
    have hrg : w4.rangeAt g (oo + k * 8) (entL ca e) := fun q v hv => by
      have hq : q < 7 := by
        rcases Nat.lt_or_ge q 7 with h' | h'
        · exact h'
        · rw [List.getElem?_eq_none (by simpa [entL] using h')] at hv; cases hv
      have := HW4.out.row.cell (i := k * 8 + q) (by omega)
      rw [Nat.add_assoc, this]
      refine cellsE_at HKS.out ?_
      have : (slotL (some (ca, e)))[q]? = (entL ca e)[q]? := by
        rw [show slotL (some (ca, e)) = entL ca e ++ [.bool true] from rfl, List.getElem?_append_left (by simpa [entL] using hq)]
      rw [this, hv]
    have hS : w4.cell? ⟨b, 2, none⟩ = some (.slice (some ⟨g, oo, none⟩) n c) ∧ w4.rangeAt g (oo + k * 8) (entL ca e) := ⟨HW4.out.blk.cell 2, hrg⟩
    have HS := Lib.hid hS
    refine wp_region_held_drew (S := fun wq => wq.cell? ⟨b, 2, none⟩ = some (.slice (some ⟨g, oo, none⟩) n c) ∧ wq.rangeAt g (oo + k * 8) (entL ca e)) (by kernel_rfl) (by rw [← hw4]; exact hS) (fun _ => ?_)
    rw [← hw4]
    clear hw4 hrg hS hgb
    refine wpAnyH_take (i := 0) (v := .pointer (some ⟨b, 0, none⟩)) rfl (by kernel_rfl) (by kernel_rfl) (by kernel_rfl) (fun _ _ _ h => h) (Or.inl ⟨by kernel_rfl, fun w _ => by go_simp⟩) HS.out ?_
    refine wpAnyH_take (i := 1) (v := .pointer (some ⟨b, 0, none⟩)) rfl (by kernel_rfl) (by kernel_rfl) (by kernel_rfl) (fun _ _ _ h => h) (Or.inl ⟨by kernel_rfl, fun w _ => by go_simp⟩) HS.out ?_
    refine wpAnyH_take (i := 2) (v := .pointer (some ⟨b, 2, none⟩)) rfl (by kernel_rfl) (by kernel_rfl) (by kernel_rfl) (fun _ _ _ h => h) (Or.inl ⟨by kernel_rfl, fun w _ => by go_simp⟩) HS.out ?_
    refine wpAnyH_take (i := 3) (v := .slice (some ⟨g, oo, none⟩) n c) rfl (by kernel_rfl) (by kernel_rfl) (by kernel_rfl) (fun _ _ _ h => h) (Or.inl ⟨by kernel_rfl, fun wq h => by obtain ⟨h, _⟩ := h; go_simp⟩) HS.out ?_
    refine wpAnyH_take (i := 4) (v := .pointer (some ⟨b, 0, none⟩)) rfl (by kernel_rfl) (by kernel_rfl) (by kernel_rfl) (fun _ _ _ h => h) (Or.inl ⟨by kernel_rfl, fun w _ => by go_simp⟩) HS.out ?_
    refine wpAnyH_take (i := 5) (v := .int .i64 ((fr : Int) + 1 + (k : Int))) rfl (by kernel_rfl) (by kernel_rfl) (by kernel_rfl) (fun _ _ _ h => h) (Or.inl ⟨by kernel_rfl, fun w _ => by go_simp⟩) HS.out ?_
    refine wpAnyH_ready (rs := [6]) (by kernel_rfl) (by simp) ?_
    refine AllReadyH.cons rfl (fun K hK => ?_) AllReadyH.nil
    go_simp
    refine (winPlace _ HW4.out k (by have := HW4.out.fit.out; unfold FitB; omega)).mono ?_
    rintro en w3 ⟨rfl, rfl⟩
    go_simp
    refine hK.out _ _ HS.out (fun _ => ?_)
    clear hK K
    refine wpAnyH_take (i := 7) (v := .pointer (some ⟨g, oo + k * 8, none⟩)) rfl (by kernel_rfl) (by kernel_rfl) (by kernel_rfl) (fun _ _ _ h => h) (Or.inl ⟨by kernel_rfl, fun w _ => by go_simp⟩) HS.out ?_
    refine wpAnyH_take (i := 8) (v := .pointer (some ⟨g, oo + k * 8, none⟩)) rfl (by kernel_rfl) (by kernel_rfl) (by kernel_rfl) (fun _ _ _ h => h) (Or.inl ⟨by kernel_rfl, fun w _ => by go_simp⟩) HS.out ?_
    refine wpAnyH_take (i := 9) (v := .agg (entL ca e).toArray) rfl (by kernel_rfl) (by kernel_rfl) (by kernel_rfl) (fun _ _ _ h => h) (yieldsIf_load_mid (by kernel_rfl) 40 (.tmp 21) rfl g (oo + k * 8) rfl (entL ca e) _ (fun _ h => h.2) Tryz.underlying40 rfl (by kernel_rfl)) HS.out ?_
    refine wpAnyH_ready (rs := [10]) (by kernel_rfl) (by simp) ?_
    refine AllReadyH.cons rfl (fun K hK => ?_) AllReadyH.nil
    refine wp_store_row 40 (.tmp 4) (.tmp 22) rfl g4 (entC ca e) rfl rfl 40 #[.int .i64 0, .int .i64 0, .int .i64 0, .int .i64 0, .slice none 0 0, .slice none 0 0, .slice none 0 0] HK4.out (by kernel_rfl) rfl (by kernel_rfl) ?_
    have hS5 : (w4.setRow g4 (entC ca e)).cell? ⟨b, 2, none⟩ = some (.slice (some ⟨g, oo, none⟩) n c) ∧ (w4.setRow g4 (entC ca e)).rangeAt g (oo + k * 8) (entL ca e) := by
      refine ⟨(HW4.out.blk.row_other (HW4.out.blk.apart HK4.out (by decide)) _).cell 2, ?_⟩
      intro q v hv
      rw [cell_setRow_other w4 g4 _ ⟨g, oo + k * 8 + q, none⟩ (Ne.symm hne)]
      exact HS.out.2 q v hv
    refine hK.out _ _ hS5 (fun _ => ?_)
    clear hK K
    refine wpAnyH_take (i := 11) (v := .bool true) rfl (by kernel_rfl) (by kernel_rfl) (by kernel_rfl) (fun _ _ _ h => h) (Or.inl ⟨by kernel_rfl, fun w _ => by go_simp⟩) hS5 ?_
    refine wpAnyH_done (by kernel_rfl) ?_ _
    go_wp2_with fail
    refine bodyPost_ret (results_cell_tmp rfl _ _ _ _ _ _ rfl (Blk.row HK4.out (entC ca e)) Tryz.underlying40 rfl (by kernel_rfl)) rfl ?_
    exact ⟨rfl, below_setRow HB4.out (by have := HG4.out; omega) _⟩
end Go.Proofs.YtaknfmionkkdjaaGreat

namespace Go.Proofs.YtaknfmionkkdjaaGreat
open Go.RowKit
set_option linter.unusedVariables false
theorem run_append_offB {P : Program} (w : World) (base : Nat) (t ty e : TypeId) (i : TypeInfo) (z : Value) (size bytes : Nat) (ht : P.underlying t = some (.slice e)) (hi : P.info? e = some i) (hz : i.zero = some z)
    (hsize : i.size = size) (hby : i.bytes = bytes) (hzs : z.cells.size = size)
    (A : Option Addr) (n cap : Nat) (xs : List Value) (hown : OffRow w base e size A n cap xs)
    (a : Addr) (m c : Nat) (news : List Value) (hm : 0 < m) (hl : news.length = m * size) (hnews : ∀ j u, news[j]? = some u → w.cell? (a.add j) = some u) (h1 : ∀ u ∈ news, u.oneCell' = true)
    (h63 : n + m ≤ maxLen) (hbytes : (n + m) * bytes ≤ 140737488355328) (hbase : base ≤ w.heap.size) :
    ∃ A' c' w', (Builtin.append_ #[t, t] ty #[.slice A n cap, .slice (some a) m c]).run P w = .ok (.slice A' (n + m) c') w' ∧ OffRow w' base e size A' (n + m) c' (xs ++ news) ∧ w.grownBy w' (Value.slice A n cap).ownBlock ∧ (∀ g o, A' = some ⟨g, o, none⟩ → (∃ o', A = some ⟨g, o', none⟩) ∨ w.heap.size ≤ g) := by
  subst hsize
  subst hby
  have hsmall : n + m ≤ 9223372036854775807 := by simp only [maxLen] at h63; omega
  have hlen : (xs ++ news).length = (n + m) * i.size := by rw [List.length_append, hown.len, hl, Nat.add_mul]
  have grown : ∀ (old : Nat), old < n + m → ∀ (row : Option Nat),
      OffRow (w.drew.alloc (.cells (xs.toArray ++ news.toArray ++ Builtin.zeroCells z.cells (grownCap w (n + m) old e - (n + m))) e)) base e i.size (some ⟨w.heap.size, 0, none⟩) (n + m) (grownCap w (n + m) old e) (xs ++ news) ∧
      w.grownBy (w.drew.alloc (.cells (xs.toArray ++ news.toArray ++ Builtin.zeroCells z.cells (grownCap w (n + m) old e - (n + m))) e)) row := by
    intro old ho row
    have hge := grownCap_ge w (n + m) old e
    have hcm : grownCap w (n + m) old e ≤ maxLen := grownCap_le_maxLen w (n + m) old e h63
    refine ⟨⟨hlen, hge, hcm, .inr ⟨w.heap.size, 0, _, rfl, hbase, heap_alloc_new w.drew _, ?_, fun j hj => ?_⟩⟩, ⟨rfl, rfl, rfl, by simp, fun k hk _ => heap_alloc_old' w _ k hk⟩⟩
    · simp only [Array.size_append, List.size_toArray, size_zeroCells, hzs, hown.len, hl, ← Nat.add_mul]
      have : n + m + (grownCap w (n + m) old e - (n + m)) = grownCap w (n + m) old e := by omega
      rw [this]; omega
    · have hx : xs.length = n * i.size := hown.len
      rw [Nat.add_mul] at hj
      rw [Nat.zero_add, Array.getElem?_append_left (by simp; omega)]
      simp
  have hnew : ∀ g o, some (⟨w.heap.size, 0, none⟩ : Addr) = some ⟨g, o, none⟩ → (∃ o', A = some ⟨g, o', none⟩) ∨ w.heap.size ≤ g := fun g o e => by
    injection e with e
    injection e with e _
    exact .inr (by omega)
  have hxl := hown.len
  rcases hown.blk with ⟨rfl, rfl⟩ | ⟨g, o, cur, rfl, hbg, hg, hfit, hcs⟩
  · obtain rfl : n = 0 := by have := hown.le; omega
    have hx : xs = [] := List.eq_nil_of_length_eq_zero (by simpa using hxl)
    subst hx
    have hr := run_append_nil (P := P) w t ty e i z ht hi hz a m c news hl hnews hm (by omega) (by have hb := hbytes; simp only [Nat.zero_add] at hb; omega)
    have hgr := grown 0 (by omega) (Value.ownBlock (.slice none 0 0))
    simp only [Nat.zero_add, List.nil_append, Array.empty_append] at hgr ⊢
    exact ⟨_, _, _, hr, hgr.1, hgr.2, hnew⟩
  · by_cases hroom : n + m ≤ cap
    · have hnm : (n + m) * i.size ≤ cap * i.size := Nat.mul_le_mul_right _ hroom
      rw [Nat.add_mul] at hnm
      have hf := run_firstCells_some (P := P) w i.size m a m c news hl hnews
      have hst := run_storeCells_at P g (o + n * i.size) e news 0 cur w hg (by omega) h1
      simp only [Nat.add_zero] at hst
      refine ⟨some ⟨g, o, none⟩, cap, w.setRow g (cur.toList.take (o + n * i.size) ++ news ++ cur.toList.drop (o + n * i.size + news.length)).toArray, ?_, ⟨hlen, hroom, hown.max, .inr ⟨g, o, _, rfl, hbg, setRow_heap w g cur _ e _ hg, ?_, fun j hj => ?_⟩⟩, ⟨rfl, rfl, rfl, by simp, fun k _ hk => setRow_other w g k _ (fun e => hk (by simp [Value.ownBlock, e]))⟩, fun g' o' e => ?_⟩
      · simp [Builtin.append_, run_underlying ht, sizeOf, typeInfo, hi, Builtin.lenOf, hroom, hf, addr_add, hst]
      · simp only [List.size_toArray, List.length_append, List.length_take, List.length_drop, Array.length_toList]
        omega
      · rw [Nat.add_mul] at hj
        rw [List.getElem?_toArray]
        by_cases h2 : j < n * i.size
        · rw [List.append_assoc, List.getElem?_append_left (by simp; omega), List.getElem?_take_of_lt (by omega), List.getElem?_append_left (by omega), ← hcs j h2]
          simp
        · have e1 : (cur.toList.take (o + n * i.size)).length = o + n * i.size := by simp; omega
          rw [List.append_assoc, List.getElem?_append_right (by omega), e1, show o + j - (o + n * i.size) = j - n * i.size by omega, List.getElem?_append_left (by omega), List.getElem?_append_right (l₁ := xs) (by omega), hxl]
      · exact .inl ⟨o', e⟩
    · have hr := run_append_grow (P := P) w t ty e i z ht hi hz ⟨g, o, none⟩ n cap xs hown.len (fun j u hu => by
        have hj : j < n * i.size := by rw [← hxl]; exact (List.getElem?_eq_some_iff.1 hu).1
        rw [addr_add, hown.cell hj, hu]) a m c news hl hnews (by omega) (by omega) (growslice_fits (by omega) hbytes)
      have hgr := grown cap (by omega) (Value.ownBlock (.slice (some ⟨g, o, none⟩) n cap))
      exact ⟨_, _, _, hr, hgr.1, hgr.2, hnew⟩
/-- the same, for the walk -/
theorem wpList_append_offB {P : Program} {t e : TypeId} {z : Value} {size bytes base : Nat} {w : World} (hU : P.underlying t = some (.slice e)) (hI : (P.info? e).map (fun i => (i.zero, i.size, i.bytes)) = some (some z, size, bytes)) (hzs : z.cells.size = size)
    {ops : Array Oper} {rest : List Oper} {o : Oper} {a : Act} {Q : Exit → Act → World → Prop} (s x : Operand)
    (ho : o.op = .call { callee := .builtin .append, args := #[s, x], argTypes := #[t, t] }) (hw : Region.wanted o (yielded ops a.tmps) = true)
    {A : Option Addr} {n c : Nat} {xs : List Value} (hs : a.eval s = .slice A n c) (hown : OffRow w base e size A n c xs)
    {ad : Addr} {m c' : Nat} {news : List Value} (hx : a.eval x = .slice (some ad) m c') (hm : 0 < m) (hl : news.length = m * size) (hnews : ∀ j u, news[j]? = some u → w.cell? (ad.add j) = some u) (h1 : ∀ u ∈ news, u.oneCell' = true)
    (hnm : n + m ≤ 1000000000) (hby : bytes ≤ 1000) (hbase : base ≤ w.heap.size)
    (h : ∀ A2 c2 w2, OffRow w2 base e size A2 (n + m) c2 (xs ++ news) → w.grownBy w2 (Value.slice A n c).ownBlock → (∀ g o, A2 = some ⟨g, o, none⟩ → (∃ o', A = some ⟨g, o', none⟩) ∨ w.heap.size ≤ g) → wpList P ops Q rest (a.put o.dst (.slice A2 (n + m) c2)) w2) :
    wpList P ops Q (o :: rest) a w := by
  obtain ⟨i, hi, hz, hsz, hbi⟩ := info_parts hI
  obtain ⟨A2, c2, w2, hrun, h2, h3, h4⟩ := run_append_offB (P := P) w base t o.type e i z size bytes hU hi hz hsz hbi hzs A n c xs hown ad m c' news hm hl hnews h1
    (by unfold maxLen; omega) (by have := Nat.mul_le_mul hnm hby; omega) hbase
  have hgo := h A2 c2 w2 h2 h3 h4
  unfold wpList
  rw [if_pos hw]
  refine Or.inl ?_
  unfold Oper.wp execOp
  simp only [ho, resolve, invoke, builtin, Sem.run_bind, Sem.run_pure, Result.andThen_ok, List.map_toArray, List.map_cons, List.map_nil, hs, hx, hrun]
  exact hgo
theorem run_max0B {P : Program} (w : World) (ts : Array TypeId) (t : TypeId) (n : Int) :
    (Builtin.max_ ts t #[.int .i64 n, .int .i64 0]).run P w = .ok (.int .i64 (max n 0)) w := by
  have e : max n 0 = if (n : Int) < 0 then 0 else n := by omega
  rw [e]
  simp [Builtin.max_, Builtin.max2]
/-- the number that a window begins behind -/
def heldB (n : Int) : Nat := (min (max n 0) 1099511627776).toNat
theorem run_min40B {P : Program} (w : World) (ts : Array TypeId) (t : TypeId) (n : Int) :
    (Builtin.min_ ts t #[.int .i64 (max n 0), .int .i64 1099511627776]).run P w = .ok (.int .i64 (heldB n : Nat)) w := by
  have e : ((heldB n : Nat) : Int) = if (1099511627776 : Int) < max n 0 then 1099511627776 else max n 0 := by unfold heldB; omega
  rw [e]
  simp [Builtin.min_, Builtin.min2]
theorem winNew (w : World) (n : Int) :
    Calls Tryz.prog 44 #[.int .i64 n] w fun e w' => ∃ b, e = .returned (.pointer (some ⟨b, 0, none⟩)) ∧ WinE w' b (heldB n) (heldB n) none 0 0 [] ∧ w.heap.size ≤ b ∧ Below w.heap.size w w' := by
  have h1 := fun (w : World) ts t => run_max0B (P := Tryz.prog) w ts t n
  have h2 := fun (w : World) ts t => run_min40B (P := Tryz.prog) w ts t n
  go_enter Tryz.func44, Tryz.ntmps44
  go_wp2
  go_ret
  exact ⟨_, rfl, ⟨Blk.new _ _ _, OffRow.nil _ _ _ _, by unfold FitB heldB; omega, by simp⟩, Nat.le_refl _, (Below.refl _ _).alloc (Nat.le_refl _) _⟩
theorem Keeps.of_grown {S : Nat → Prop} {w w' : World} {row : Option Nat} (h : w.grownBy w' row) (hs : ∀ g, row = some g → S g) : Keeps S w w' :=
  ⟨h.os, h.tape, h.output, h.size, fun k hk hn => h.block k hk (fun e => hn (hs k e.symm))⟩
theorem Adv.blk {S S' : Nat → Prop} {T : List TypeId} {w w' : World} {g : Nat} {t : TypeId} {cs : Array Value} (h : Adv S w S' w') (ho : Of S T w) (hb : Blk w g t cs) (ht : t ∉ T) : Blk w' g t cs := hb.keeps h.keeps (ho.not hb ht)
section
variable {w w' : World} {b fr wh n c : Nat} {A : Option Addr} {ss : List (Option VE)}
/-- the window's own cells are turned -/
theorem WinE.win (h : WinE w b fr wh A n c ss) {fr' wh' : Nat} (hg : w.grownBy w' (some b)) (hb : Blk w' b 99 #[.int .i64 (fr' : Int), .int .i64 (wh' : Int), .slice A n c]) (hf : FitB (fr' + n)) : WinE w' b fr' wh' A n c ss ∧ Adv (winS b A) w (winS b A) w' := by
  have hk : Keeps (winS b A) w w' := Keeps.of_grown hg (fun g e => by injection e with e; exact .inl e.symm)
  refine ⟨⟨hb, h.row.grown hg (fun g o e => ?_), hf, fun a e he => (h.ent a e he).keeps hk h.of (by decide)⟩, hk, fun q hq => .inl hq⟩
  subst e
  obtain ⟨cur, hgb⟩ := h.row.blkAt
  intro e
  injection e with e
  exact (h.blk.apart hgb (by decide)) e.symm
/-- a slot is set -/
theorem WinE.slot {g oo k : Nat} {ca : CA} {e : En} (h : WinE w b fr wh (some ⟨g, oo, none⟩) n c ss) (hk : k < n) (hr : RdC9 w ca e.c) :
    WinE (w.setCells g (oo + k * 8) (slotL (some (ca, e)))) b fr wh (some ⟨g, oo, none⟩) n c (ss.set k (some (ca, e))) ∧ Adv (winS b (some ⟨g, oo, none⟩)) w (winS b (some ⟨g, oo, none⟩)) (w.setCells g (oo + k * 8) (slotL (some (ca, e)))) := by
  obtain ⟨cur, hgb⟩ := h.row.blkAt
  have hg := grown_setCells g (slotL (some (ca, e))) (oo + k * 8) w
  have hrow := OffRow.setCells (slotL (some (ca, e))) (k * 8) w _ h.row (by rw [slotL_length]; omega)
  rw [cellsE_set _ _ _ (by rw [h.len]; exact hk)] at hrow
  generalize w.setCells g (oo + k * 8) (slotL (some (ca, e))) = w5 at hg hrow ⊢
  have hkp : Keeps (winS b (some ⟨g, oo, none⟩)) w w5 := Keeps.of_grown hg (fun q e => by injection e with e; exact .inr ⟨g, oo, rfl, e.symm⟩)
  refine ⟨⟨h.blk.grown hg (fun e => h.blk.apart hgb (by decide) (by injection e)), hrow, h.fit, fun a' e' he => ?_⟩, hkp, fun q hq => .inl hq⟩
  rcases List.mem_or_eq_of_mem_set he with h1 | h1
  · exact (h.ent a' e' h1).keeps hkp h.of (by decide)
  · injection h1 with h1
    injection h1 with h1 h2
    subst h1 h2
    exact hr.keeps hkp h.of (by decide)
/-- a slot more, not filled; the window knows -/
theorem WinE.more {ob : Obj} {A3 : Option Addr} {c3 : Nat} {w3 : World} (h : WinE w b fr wh A n c ss) (hrow : OffRow w3 0 102 8 A3 (n + 1) c3 (cellsE ss ++ slotL none)) (hg : (w.alloc ob).grownBy w3 (Value.slice A n c).ownBlock) (hl : ∀ g o, A3 = some ⟨g, o, none⟩ → (∃ o', A = some ⟨g, o', none⟩) ∨ (w.alloc ob).heap.size ≤ g) (hf : FitB (fr + n + 1)) :
    Blk w3 b 99 #[.int .i64 (fr : Int), .int .i64 (wh : Int), .slice A n c] ∧ WinE (w3.setCell ⟨b, 2, none⟩ (.slice A3 (n + 1) c3)) b fr wh A3 (n + 1) c3 (ss ++ [none]) ∧ Adv (winS b A) w (winS b A3) (w3.setCell ⟨b, 2, none⟩ (.slice A3 (n + 1) c3)) := by
  have hba : Below w.heap.size w (w.alloc ob) := (Below.refl _ _).alloc (Nat.le_refl _) _
  have h1 := h.below hba
  have k1 : Keeps (winS b A) (w.alloc ob) w3 := Keeps.of_grown hg (fun g e => by
    cases A with
    | none => simp [Value.ownBlock] at e
    | some a => obtain ⟨ga, oa, pa⟩ := a; simp [Value.ownBlock] at e
                rcases h.row.blk with ⟨q, _⟩ | ⟨g', o', cur, q, _⟩
                · cases q
                · injection q with q; injection q with q1 q2 q3; subst q1 q2 q3; exact .inr ⟨_, _, rfl, e.symm⟩)
  have hb3 : Blk w3 b 99 #[.int .i64 (fr : Int), .int .i64 (wh : Int), .slice A n c] := by
    refine h1.blk.grown hg ?_
    rcases h.row.blk with ⟨rfl, _⟩ | ⟨g', o', cur, rfl, _, hgb, _⟩
    · simp [Value.ownBlock]
    · intro e
      have e : b = g' := by simpa [Value.ownBlock] using e
      exact h.blk.apart hgb (by decide) e
  have g2 := grown_set w3 b 2 (.slice A3 (n + 1) c3)
  have k2 : Keeps (fun k => k = b) w3 (w3.setCell ⟨b, 2, none⟩ (.slice A3 (n + 1) c3)) := Keeps.of_grown g2 (fun g e => by injection e with e; exact e.symm)
  have of2 : Of (fun k => k = b) TB w3 := fun k hk _ => by subst hk; exact ⟨_, _, _, hb3, by simp⟩
  refine ⟨hb3, ⟨hb3.set_ 2 _, ?_, by have := hf.out; unfold FitB; omega, fun a e he => ?_⟩, ?_, ?_⟩
  · have hx : cellsE (ss ++ [none]) = cellsE ss ++ slotL none := by rw [cellsE_append]; simp [cellsE]
    rw [hx]
    refine hrow.grown g2 (fun g o e => ?_)
    subst e
    obtain ⟨cur, hgb⟩ := hrow.blkAt
    intro e
    injection e with e
    exact (hb3.apart hgb (by decide)) e.symm
  · have he' : some (a, e) ∈ ss := by simpa using he
    exact ((h1.ent a e he').keeps k1 h1.of (by decide)).keeps k2 of2 (by decide)
  · exact ((Keeps.of_below hba : Keeps (winS b A) w _).trans k1 (fun k hk _ => hk)).trans k2 (fun k hk _ => .inl hk)
  · rintro q (rfl | ⟨g, o, e, rfl⟩)
    · exact .inl (.inl rfl)
    · rcases hl q o e with ⟨o', h'⟩ | h'
      · exact .inl (.inr ⟨q, o', h', rfl⟩)
      · exact .inr (Nat.le_trans hba.size h')
/-- how many slots there are, and the mark, as the world tells -/
def winLenE (w : World) (b : Nat) : Nat := match w.cell? ⟨b, 2, none⟩ with | some (.slice _ n _) => n | _ => 0
def winMarkE (w : World) (b : Nat) : Nat := match w.cell? ⟨b, 1, none⟩ with | some v => (intOf v).toNat | _ => 0
theorem winLenE_of (h : WinE w b fr wh A n c ss) : winLenE w b = n := by
  unfold winLenE
  rw [h.blk.cell 2]
  rfl
theorem winMarkE_of (h : WinE w b fr wh A n c ss) : winMarkE w b = wh := by
  unfold winMarkE
  rw [h.blk.cell 1]
  simp [intOf]
end
end Go.Proofs.YtaknfmionkkdjaaGreat

namespace Go.Proofs.YtaknfmionkkdjaaGreat
open Go.RowKit
set_option linter.unusedVariables false
set_option maxRecDepth 100000 in
set_option maxHeartbeats 2000000 in
theorem winPut_no (w : World) {b fr wh n c : Nat} {A : Option Addr} {ss : List (Option VE)} (h : WinE w b fr wh A n c ss) (hwh : FitB wh) (i : Int) (ca : CA) (e : En) (hi : i ≤ fr ∨ (wh : Int) + 64 < i ∨ Wd.hasB fr ss i = true) :
    Calls Tryz.prog 34 #[.pointer (some ⟨b, 0, none⟩), .int .i64 i, .agg (entC ca e)] w fun e w' => e = .returned (.bool false) ∧ Below w.heap.size w w' := by
  have hw := hwh.out
  have hww : (wh : Int) ≤ 2000000000000 := by omega
  have HW0 := Lib.hid h
  clear h hw hwh
  go_enter Tryz.func34, Tryz.ntmps34
  go_upto_region 1 with fail
  obtain ⟨g5, w1, hgE, hwE, hbE, hkE⟩ := alloced w (entC ca e) 40
  rw [hgE, hwE]
  have HBE := Lib.hid hbE
  have HW := Lib.hid (HW0.out.below hbE)
  clear hgE hwE hbE hkE HW0
  have HC := Lib.hid (winHas w1 HW.out i)
  have hc0 := HW.out.blk.cell 0
  have hc1 := HW.out.blk.cell 1
  simp at hc0 hc1
  by_cases ha : i ≤ fr
  · have hd : decide (i ≤ (fr : Int)) = true := by simpa using ha
    clear hi ha
    go_wp2
    go_ret
    exact ⟨rfl, HBE.out⟩
  · have hd : decide (i ≤ (fr : Int)) = false := by simpa using ha
    by_cases hb : (wh : Int) + 64 < i
    · have hd2 : decide ((wh : Int) + 64 < i) = true := by simpa using hb
      clear hi ha hb
      go_wp2
      go_ret
      exact ⟨rfl, HBE.out⟩
    · have hd2 : decide ((wh : Int) + 64 < i) = false := by simpa using hb
      have hh : Wd.hasB fr ss i = true := by
        rcases hi with hi | hi | hi
        · exact absurd hi ha
        · exact absurd hi hb
        · exact hi
      rw [hh] at HC
      clear hi ha hb hh
      go_wp2_with fail
      refine HC.out.mono ?_
      rintro en w2 ⟨rfl, m, hm⟩
      have hB1 : Below w1.heap.size w1 w2 := by rw [hm]; exact below_drewN (Below.refl _ _) m
      clear hm
      go_wp2
      go_ret
      exact ⟨rfl, HBE.out.trans (hB1.mono HBE.out.size)⟩
set_option maxRecDepth 100000 in
set_option maxHeartbeats 4000000 in
theorem winPut (w : World) {b fr wh n c : Nat} {A : Option Addr} {ss : List (Option VE)} (h : WinE w b fr wh A n c ss) (hwh : wh = fr + Wd.lead ss) (k : Nat) {ca : CA} {e : En} (hrc : RdC9 w ca e.c) (hk : fr + 1 + k ≤ wh + 64) (hno : ss[k]?.join = none) (hfit : FitB (fr + k + 1)) (hk4 : k + 1 ≤ 1000000) (hn4 : n ≤ 1000000) :
    Calls Tryz.prog 34 #[.pointer (some ⟨b, 0, none⟩), .int .i64 ((fr : Int) + 1 + (k : Int)), .agg (entC ca e)] w fun en w' => ∃ A' n' c', en = .returned (.bool true) ∧ WinE w' b fr (fr + Wd.lead (Wd.laid ss k (ca, e))) A' n' c' (Wd.laid ss k (ca, e)) ∧ Adv (winS b A) w (winS b A') w' := by
  have hh : Wd.hasB fr ss ((fr : Int) + 1 + (k : Int)) = false := by
    have e : ((fr : Int) + 1 + (k : Int)) = ((fr + 1 + k : Nat) : Int) := by omega
    rcases Nat.lt_or_ge k ss.length with hl | hl
    · rw [e, Wd.hasB_at hl]
      rw [List.getElem?_eq_getElem hl] at hno
      simp at hno; simp [hno]
    · exact Wd.hasB_far (by omega)
  have HLE0 := Lib.hid (Wd.lead_le ss)
  have hlen0 := h.len
  have hd2 : decide ((wh : Int) + 64 < (fr : Int) + 1 + (k : Int)) = false := by simp; omega
  have hd : decide ((fr : Int) + 1 + (k : Int) ≤ (fr : Int)) = false := by simp; omega
  have hww : (wh : Int) ≤ 2000000000000 := by have := h.fit.out; have := HLE0.out; omega
  have HN := Lib.hid hwh
  have HF := Lib.hid hfit
  have HK4 := Lib.hid hk4
  have hi1 : (fr : Int) + 1 + (k : Int) ≤ 2000000000000 := by have := hfit.out; omega
  have HW0 := Lib.hid h
  have HRC0 := Lib.hid hrc
  have HL := Lib.hid (show ss.length = n from hlen0)
  have HN4 := Lib.hid hn4
  clear h hwh hno hfit hk hk4 hrc hlen0 hn4
  have HLL := Lib.hid (Wd.lead_laid ss k (ca, e))
  have HLE := Lib.hid (Wd.lead_le (Wd.laid ss k (ca, e)))
  obtain ⟨tt, htt⟩ : ∃ tt, Wd.laid ss k (ca, e) = tt := ⟨_, rfl⟩
  rw [htt] at HLL HLE ⊢
  have HTT := Lib.hid htt
  clear htt
  go_enter Tryz.func34, Tryz.ntmps34
  go_upto_region 1 with fail
  obtain ⟨g5, w1, hgE, hwE, hbE, hkE⟩ := alloced w (entC ca e) 40
  have HAE : Hid (Adv (winS b A) w (winS b A) w1) := Lib.hid (Adv.of_below _ hbE)
  have HW1 := Lib.hid (HW0.out.below hbE)
  have HRC1 := Lib.hid (HRC0.out.below hbE)
  have HKE := Lib.hid hkE
  rw [hgE, hwE]
  clear hgE hwE hbE hkE HRC0
  have HC := Lib.hid (winHas w1 HW1.out ((fr : Int) + 1 + (k : Int)))
  rw [hh] at HC
  clear hh
  have hc0 := HW1.out.blk.cell 0
  have hc1 := HW1.out.blk.cell 1
  simp at hc0 hc1
  go_wp2_with fail
  refine HC.out.mono ?_
  rintro en w2 ⟨rfl, m, hm⟩
  have hbm : Below w1.heap.size w1 w2 := by rw [hm]; exact below_drewN (Below.refl _ _) m
  have HW2 := Lib.hid (HW1.out.below hbm)
  have HA2 := Lib.hid (HAE.out.trans (Adv.of_below _ hbm))
  have HRC2 := Lib.hid (HRC1.out.below hbm)
  have HKE2 := Lib.hid (HKE.out.below hbm)
  clear hm hbm hc0 hc1 HC HW1 HAE HRC1 HKE
  go_wp2_with fail
  go_loopw [27] (fun _ wr => ∃ j A1 n1 c1, j ≤ k + 1 - ss.length ∧ Hid (WinE wr b fr wh A1 n1 c1 (ss ++ List.replicate j none)) ∧ Hid (Adv (winS b A) w2 (winS b A1) wr)) (fun _ wr => k + 1 - winLenE wr b)
  case atStart => exact ⟨0, A, n, c, Nat.zero_le _, Lib.hid (by simpa using HW2.out), Lib.hid (Adv.refl _ _)⟩
  case round =>
    obtain ⟨j, A1, n1, c1, hj, HWr, HAr⟩ := hrel
    have hlen : (ss ++ List.replicate j none).length = ss.length + j := by simp
    have HTop := Lib.hid (winTop wr HWr.out)
    rw [hlen] at HTop
    obtain ⟨q, hq⟩ : ∃ q, q = ss.length + j := ⟨_, rfl⟩
    have hqn : n1 = q := by have := HWr.out.len; rw [hlen] at this; omega
    subst hqn
    rw [← hq] at HTop
    have HQ := Lib.hid hq
    have HM := Lib.hid (winLenE_of HWr.out)
    clear hlen
    by_cases hlt : n1 < k + 1
    · have hlt' : (fr : Int) + (n1 : Int) < (fr : Int) + 1 + (k : Int) := by omega
      clear hq
      go_wp2_with fail
      refine HTop.out.mono ?_
      rintro en w3 ⟨rfl, m2, hm2⟩
      have hbm : Below wr.heap.size wr w3 := by rw [hm2]; exact below_drewN (Below.refl _ _) m2
      have HW3 := Lib.hid (HWr.out.below hbm)
      have HA3 := Lib.hid (HAr.out.trans (Adv.of_below _ hbm))
      clear hm2 hbm
      have hg0 := HW3.out.blk.cell 2
      simp at hg0
      have hnn : n1 + 1 ≤ 1000000000 := by have := HK4.out; omega
      have HF3 : Hid (FitB (fr + n1 + 1)) := Lib.hid (by have := HF.out.out; unfold FitB; omega)
      go_wp2_with (at_builtin; refine wpList_append_offB (base := 0) (n := n1) Tryz.underlying97 slotT rfl (.tmp 35) (.tmp 37) rfl (by rfl) rfl (HW3.out.row.alloc _) (ad := ⟨w3.heap.size, 0, none⟩) (m := 1) (c' := 1) (news := slotL none) rfl (by omega) rfl (fun q u hu => by
          rw [addr_add, Nat.zero_add, World.cell?_alloc_mark]; simpa [slotL] using hu) (slotL_one none) hnn (by omega) (Nat.zero_le _) ?_; intro A4 c4 w4 hown4 hgrow4 hl4; obtain ⟨s1, s2, s3⟩ := HW3.out.more hown4 hgrow4 hl4 HF3.out; have hf2 := s1.frozen 2; have hc2 := s1.cell 2; simp at hc2; have HS2 := Lib.hid s2; have HS3 := Lib.hid (HA3.out.trans s3); clear s1 s2 s3 hown4 hgrow4 hl4 hg0)
      go_roundw
      case rel =>
        refine ⟨j + 1, A4, n1 + 1, c4, by have := HQ.out; omega, Lib.hid ?_, HS3⟩
        have h5 := HS2.out
        rw [List.replicate_succ', ← List.append_assoc]
        exact h5
      case measure =>
        have e1 := winLenE_of HS2.out
        have e2 := HM.out
        rw [e1, e2]; omega
    · have hlt' : ¬ (fr : Int) + (n1 : Int) < (fr : Int) + 1 + (k : Int) := by omega
      have hqk : k < n1 := by omega
      have HJ := Lib.hid hj
      clear hq hlt hj
      go_wp2_with fail
      refine HTop.out.mono ?_
      rintro en w3 ⟨rfl, m2, hm2⟩
      have hbm : Below wr.heap.size wr w3.drew := by rw [hm2]; exact (below_drewN (Below.refl _ _) m2).drew
      clear hm2
      go_upto_region 5 with fail
      obtain ⟨w4, hw4⟩ : ∃ w4, w4 = w3.drew := ⟨_, rfl⟩
      rw [← hw4] at hbm
      have HW4 := Lib.hid (HWr.out.below hbm)
      have HA4 := Lib.hid (HAr.out.trans (Adv.of_below _ hbm))
      have hk5 : Blk w4 g5 40 (entC ca e) := HA4.out.blk HW2.out.of HKE2.out (by decide)
      have HR4 := Lib.hid (HRC2.out.keeps HA4.out.keeps HW2.out.of (by decide))
      clear hbm
      obtain ⟨g, oo, cur, rfl, _, hgb, _, _⟩ := HW4.out.row.addr (by have := HW4.out.row.le; omega)
      have hrg : w4.rangeAt g5 0 (entL ca e) := fun q v hv => by
        rw [Nat.zero_add, hk5.cell]
        have : (entC ca e)[q]? = (entL ca e)[q]? := by simp [entC, entL]
        rw [this, hv]
      have hS : w4.cell? ⟨b, 2, none⟩ = some (.slice (some ⟨g, oo, none⟩) n1 c1) ∧ w4.rangeAt g5 0 (entL ca e) := ⟨HW4.out.blk.cell 2, hrg⟩
      have HS := Lib.hid hS
      refine wp_region_held_drew (S := fun wq => wq.cell? ⟨b, 2, none⟩ = some (.slice (some ⟨g, oo, none⟩) n1 c1) ∧ wq.rangeAt g5 0 (entL ca e)) (by kernel_rfl) (by rw [← hw4]; exact hS) (fun _ => ?_)
      rw [← hw4]
      have HNE5 := Lib.hid (show g5 ≠ g from hk5.apart hgb (by decide))
      have HNEB := Lib.hid (show b ≠ g from HW4.out.blk.apart hgb (by decide))
      clear hw4 hrg hS hgb hk5
      refine wpAnyH_take (i := 0) (v := .pointer (some ⟨b, 0, none⟩)) rfl (by kernel_rfl) (by kernel_rfl) (by kernel_rfl) (fun _ _ _ h => h) (Or.inl ⟨by kernel_rfl, fun w _ => by go_simp⟩) HS.out ?_
      refine wpAnyH_take (i := 1) (v := .pointer (some ⟨b, 0, none⟩)) rfl (by kernel_rfl) (by kernel_rfl) (by kernel_rfl) (fun _ _ _ h => h) (Or.inl ⟨by kernel_rfl, fun w _ => by go_simp⟩) HS.out ?_
      refine wpAnyH_take (i := 2) (v := .pointer (some ⟨b, 2, none⟩)) rfl (by kernel_rfl) (by kernel_rfl) (by kernel_rfl) (fun _ _ _ h => h) (Or.inl ⟨by kernel_rfl, fun w _ => by go_simp⟩) HS.out ?_
      refine wpAnyH_take (i := 3) (v := .slice (some ⟨g, oo, none⟩) n1 c1) rfl (by kernel_rfl) (by kernel_rfl) (by kernel_rfl) (fun _ _ _ h => h) (Or.inl ⟨by kernel_rfl, fun w h => by obtain ⟨h, _⟩ := h; go_simp⟩) HS.out ?_
      refine wpAnyH_take (i := 4) (v := .pointer (some ⟨b, 0, none⟩)) rfl (by kernel_rfl) (by kernel_rfl) (by kernel_rfl) (fun _ _ _ h => h) (Or.inl ⟨by kernel_rfl, fun w _ => by go_simp⟩) HS.out ?_
      refine wpAnyH_take (i := 5) (v := .int .i64 ((fr : Int) + 1 + (k : Int))) rfl (by kernel_rfl) (by kernel_rfl) (by kernel_rfl) (fun _ _ _ h => h) (Or.inl ⟨by kernel_rfl, fun w _ => by go_simp⟩) HS.out ?_
      refine wpAnyH_take (i := 7) (v := .agg #[.int .i64 e.s, .int .i64 e.q, .int .i64 e.c.kind, .int .i64 e.c.who, .slice ca.Ak e.c.key.length ca.ck, .slice ca.Av e.c.val.length ca.cv, .slice ca.Ao e.c.old.length ca.co]) rfl (by kernel_rfl) (by kernel_rfl) (by kernel_rfl) (fun _ _ _ h => h) (yieldsIf_load_mid (by kernel_rfl) 40 (.tmp 5) rfl g5 0 rfl [.int .i64 e.s, .int .i64 e.q, .int .i64 e.c.kind, .int .i64 e.c.who, .slice ca.Ak e.c.key.length ca.ck, .slice ca.Av e.c.val.length ca.cv, .slice ca.Ao e.c.old.length ca.co] _ (fun _ h => h.2) Tryz.underlying40 rfl (by kernel_rfl)) HS.out ?_
      refine wpAnyH_take (i := 8) (v := .agg #[.int .i64 e.s, .int .i64 e.q, .int .i64 e.c.kind, .int .i64 e.c.who, .slice ca.Ak e.c.key.length ca.ck, .slice ca.Av e.c.val.length ca.cv, .slice ca.Ao e.c.old.length ca.co, .bool true]) rfl (by kernel_rfl) (by kernel_rfl) (by kernel_rfl) (fun _ _ _ h => h) (Or.inl ⟨by kernel_rfl, fun w _ => by go_simp⟩) HS.out ?_
      refine wpAnyH_ready (rs := [6]) (by kernel_rfl) (by simp) ?_
      refine AllReadyH.cons rfl (fun K hK => ?_) AllReadyH.nil
      go_simp
      refine (winPlace _ HW4.out k (by have := HF.out.out; unfold FitB; omega)).mono ?_
      rintro en w5 ⟨rfl, rfl⟩
      go_simp
      refine hK.out _ _ HS.out (fun _ => ?_)
      clear hK K
      refine wpAnyH_take (i := 9) (v := .pointer (some ⟨g, oo + k * 8, none⟩)) rfl (by kernel_rfl) (by kernel_rfl) (by kernel_rfl) (fun _ _ _ h => h) (Or.inl ⟨by kernel_rfl, fun w _ => by go_simp⟩) HS.out ?_
      refine wpAnyH_ready (rs := [10]) (by kernel_rfl) (by simp) ?_
      refine AllReadyH.cons rfl (fun K hK => ?_) AllReadyH.nil
      have hth : w4.there g (oo + k * 8) 8 := fun j hj => by
        have hx := HW4.out.row.cell (i := k * 8 + j) (by omega)
        rw [← Nat.add_assoc] at hx
        refine ⟨?_, HW4.out.row.frozen _⟩
        rw [hx, List.getElem?_eq_getElem (by rw [HW4.out.row.len]; omega)]
        rfl
      refine wp_store_mid 102 (.tmp 50) (.tmp 49) rfl g (oo + k * 8) (slotL (some (ca, e))).toArray rfl rfl hth (by kernel_rfl) (all_oneCell_toArray (slotL_one _)) ?_
      clear hth
      obtain ⟨s1, s2⟩ := HW4.out.slot hqk HR4.out
      have hgs := grown_setCells g (slotL (some (ca, e))) (oo + k * 8) w4
      have hx2 : (w4.setCells g (oo + k * 8) (slotL (some (ca, e)))).rangeAt g5 0 (entL ca e) := World.rangeAt_setCells_apart HS.out.2 _ _ _ (.inl HNE5.out)
      have hx1 := s1.blk.cell 2
      have e0 : (slotL (some (ca, e))).toArray.toList = slotL (some (ca, e)) := rfl
      rw [e0]
      have HW5 := Lib.hid s1
      have HA5 := Lib.hid (HA4.out.trans s2)
      clear s1 s2 hgs e0
      generalize w4.setCells g (oo + k * 8) (slotL (some (ca, e))) = w5 at HW5 HA5 hx1 hx2 ⊢
      refine hK.out _ _ ⟨hx1, hx2⟩ (fun _ => ?_)
      clear hK K hx1 hx2
      refine wpAnyH_done (by kernel_rfl) ?_ _
      go_simp
      have hlaid : (ss ++ List.replicate j none).set k (some (ca, e)) = Wd.laid ss k (ca, e) := by
        have h1 := HJ.out
        have h2 := HQ.out
        have h3 : j = k + 1 - ss.length := by omega
        rw [h3]; rfl
      rw [hlaid] at HW5
      rw [HTT.out] at HW5
      clear hlaid HS HW4 HA4
      go_wp2_with fail
      go_loopw [51] (fun _ wr => ∃ p, Wd.lead ss ≤ p ∧ p ≤ Wd.lead tt ∧ Hid (WinE wr b fr (fr + p) (some ⟨g, oo, none⟩) n1 c1 tt) ∧ Hid (Adv (winS b A) w2 (winS b (some ⟨g, oo, none⟩)) wr)) (fun _ wr => fr + Wd.lead tt - winMarkE wr b)
      case atStart => exact ⟨Wd.lead ss, Nat.le_refl _, HLL.out, Lib.hid (by rw [← HN.out]; exact HW5.out), HA5⟩
      case round =>
        obtain ⟨p, hp1, hp2, HWp, HAp⟩ := hrel
        have HCp := Lib.hid (winHas wr HWp.out ((fr : Int) + (p : Int) + 1))
        have e0 : ((fr : Int) + (p : Int) + 1) = ((fr + p : Nat) : Int) + 1 := by omega
        rw [e0, Wd.hasB_next hp2, ← e0] at HCp
        have HMp := Lib.hid (winMarkE_of HWp.out)
        have hpp : (fr : Int) + (p : Int) ≤ 2000000000000 := by
          have h1 := HLE.out; have h2 := HWp.out.len; have h3 := HWp.out.fit.out
          omega
        have hg1 := HWp.out.blk.cell 1
        simp at hg1
        have hgf := HWp.out.blk.frozen 1
        have HP1 := Lib.hid hp1
        have HP2 := Lib.hid hp2
        clear e0 hp1 hp2
        by_cases hlt : p < Wd.lead tt
        · rw [decide_eq_true hlt] at HCp
          go_wp2_with fail
          refine HCp.out.mono ?_
          rintro en w6 ⟨rfl, m6, hm6⟩
          have hg1' : w6.cell? ⟨b, 1, none⟩ = some (.int .i64 ((fr : Int) + (p : Int))) := by rw [hm6]; exact hg1
          have hgf' : w6.frozen? ⟨b, 1, none⟩ = false := by rw [hm6]; exact hgf
          have hB6 := below_drewN (Below.refl wr.heap.size wr) m6
          rw [← hm6] at hB6
          have hw6 := HWp.out.below hB6
          have e7 : ((fr : Int) + (p : Int) + 1) = ((fr + (p + 1) : Nat) : Int) := by omega
          obtain ⟨s1, s2⟩ := hw6.win (fr' := fr) (wh' := fr + (p + 1)) (grown_set w6 b 1 (.int .i64 ((fr : Int) + (p : Int) + 1))) (by rw [← e7]; exact hw6.blk.set_ 1 _) hw6.fit
          have HS1 := Lib.hid s1
          have HS2 := Lib.hid ((HAp.out.trans (Adv.of_below _ hB6)).trans s2)
          clear hm6 hg1 hgf hB6 s1 s2 hw6 e7
          go_wp2
          go_roundw
          case rel => exact ⟨p + 1, by have := HP1.out; omega, by omega, HS1, HS2⟩
          case measure =>
            rw [winMarkE_of HS1.out, HMp.out]; omega
        · have hpe : p = Wd.lead tt := by have := HP2.out; omega
          rw [decide_eq_false hlt] at HCp
          have HE := Lib.hid hpe
          clear hpe hlt
          go_wp2_with fail
          refine HCp.out.mono ?_
          rintro en w6 ⟨rfl, m6, hm6⟩
          have hB6 := below_drewN (Below.refl wr.heap.size wr) m6
          rw [← hm6] at hB6
          have HW6 := Lib.hid (HWp.out.below hB6)
          have HA6 := Lib.hid (HA2.out.trans (HAp.out.trans (Adv.of_below _ hB6)))
          clear hm6 hB6
          go_wp2
          go_ret
          exact ⟨_, _, _, rfl, by rw [← HE.out]; exact HW6.out, HA6.out⟩
set_option maxRecDepth 100000 in
set_option maxHeartbeats 2000000 in
theorem winCut (w : World) {b fr wh n c : Nat} {A : Option Addr} {ss : List (Option VE)} (h : WinE w b fr wh A n c ss) (hwh : wh = fr + Wd.lead ss) (k : Nat) (hk : k ≤ Wd.lead ss) (hk0 : 0 < k) :
    Calls Tryz.prog 54 #[.pointer (some ⟨b, 0, none⟩), .int .i64 ((fr : Int) + (k : Int))] w fun en w' => ∃ A' n' c', en = .returned (.tuple #[]) ∧ n' ≤ n ∧ WinE w' b (fr + k) wh A' n' c' (ss.drop k) ∧ Adv (winS b A) w (winS b A') w' := by
  have hll := Wd.lead_le ss
  have hln := h.len
  have hfit := h.fit.out
  have hc0 := h.blk.cell 0
  have hc1 := h.blk.cell 1
  have hc2 := h.blk.cell 2
  simp at hc0 hc1 hc2
  have hd : decide ((fr : Int) + (k : Int) ≤ (fr : Int)) = false := by simp; omega
  have hd2 : decide ((wh : Int) < (fr : Int) + (k : Int)) = false := by simp; omega
  have HP : Hid (Calls Tryz.prog 51 #[.pointer (some ⟨b, 0, none⟩), .int .i64 ((fr : Int) + (k : Int) + 1)] w fun e w' => e = .returned (.int .i64 (k : Int)) ∧ w = w') := by
    have := winPlace w h k (by unfold FitB; omega)
    rw [show (fr : Int) + 1 + (k : Int) = (fr : Int) + (k : Int) + 1 by omega] at this
    exact Lib.hid this
  have hkn : k ≤ n := by omega
  have hkc : k ≤ c := by have := h.row.le; omega
  have hfk : (fr : Int) + (k : Int) ≤ 2000000000000 := by omega
  have HF := Lib.hid hfit
  obtain ⟨i0, hi1, hi2, hi3, hi4⟩ := info_parts slotT
  have hs1 := run_slice_to (P := Tryz.prog) (t := 97) Tryz.underlying97 hi1 A n c k hkc
  have hs2 := run_slice_fromS (P := Tryz.prog) (t := 97) Tryz.underlying97 hi1 hi3 A n c k hkn
  obtain ⟨w2, ys, hrun, hown2, hyl, hgrow2⟩ := run_clear_off (P := Tryz.prog) w 0 97 0 102 i0 _ 8 Tryz.underlying97 hi1 hi2 rfl (by intro u hu; simp [Value.cells] at hu; rcases hu with rfl | rfl | rfl <;> rfl) A n c _ h.row k hkn
  have k1 : Keeps (winS b A) w w2 := Keeps.of_grown hgrow2 (fun g e => by
    rcases h.row.blk with ⟨rfl, _⟩ | ⟨g', o', cur, rfl, _⟩
    · simp [Value.ownBlock] at e
    · exact .inr ⟨g', o', rfl, by simpa [Value.ownBlock] using e.symm⟩)
  have hb2 : Blk w2 b 99 #[.int .i64 (fr : Int), .int .i64 (wh : Int), .slice A n c] := by
    refine h.blk.grown hgrow2 ?_
    rcases h.row.blk with ⟨rfl, _⟩ | ⟨g', o', cur, rfl, _, hgb, _⟩
    · simp [Value.ownBlock]
    · intro e
      exact h.blk.apart hgb (by decide) (by simpa [Value.ownBlock] using e)
  have hd2' := hb2.cell 2
  have hd0' := hb2.cell 0
  have hf2 := hb2.frozen 2
  have hf0 := hb2.frozen 0
  simp at hd2' hd0'
  have hown3 := hown2.drop hkn
  have hb3 := (hb2.set_ 2 (.slice (cutAtS A c k 8) (n - k) (c - k))).set_ 0 (.int .i64 ((fr : Int) + (k : Int)))
  have g3 := grown_set w2 b 2 (.slice (cutAtS A c k 8) (n - k) (c - k))
  have g4 := grown_set (w2.setCell ⟨b, 2, none⟩ (.slice (cutAtS A c k 8) (n - k) (c - k))) b 0 (.int .i64 ((fr : Int) + (k : Int)))
  have hne : ∀ g o, cutAtS A c k 8 = some ⟨g, o, none⟩ → some g ≠ some b := fun g o e q => by
    injection q with q
    rw [e] at hown3
    obtain ⟨cur, hgb⟩ := hown3.blkAt
    exact hb2.apart hgb (by decide) q.symm
  have HRW := Lib.hid ((hown3.grown g3 hne).grown g4 hne)
  have HB3 := Lib.hid hb3
  have of2 : Of (fun q => q = b) TB w2 := fun q hq _ => by subst hq; exact ⟨_, _, _, hb2, by simp⟩
  have HK := Lib.hid ((k1.trans (Keeps.of_grown (S := fun q => q = b) g3 (fun g e => by injection e with e; exact e.symm)) (fun q hq _ => .inl hq)).trans (Keeps.of_grown (S := fun q => q = b) g4 (fun g e => by injection e with e; exact e.symm)) (fun q hq _ => .inl hq))
  have HY := Lib.hid hyl
  have HE := Lib.hid (fun a e (he : some (a, e) ∈ ss) => (h.ent a e he).keeps HK.out h.of (by decide))
  have HA0 : Hid (∀ g o, cutAtS A c k 8 = some ⟨g, o, none⟩ → ∃ o', A = some ⟨g, o', none⟩) := Lib.hid (fun g o e => by
    unfold cutAtS at e
    split at e
    · exact ⟨o, e⟩
    · rcases h.row.blk with ⟨rfl, _⟩ | ⟨g', o', cur, rfl, _⟩
      · cases e
      · simp [addr_add] at e
        exact ⟨o', by rw [e.1]⟩)
  clear h hln hfit hll hi1 hi2 hi3 hi4 hwh hown2 hown3 hyl hgrow2 k1 hb2 hb3 g3 g4 hne of2
  go_enter Tryz.func54, Tryz.ntmps54
  go_wp2_with fail
  refine HP.out.mono ?_
  rintro e w1 ⟨rfl, rfl⟩
  go_wp2
  go_end0
  refine ⟨cutAtS A c k 8, n - k, c - k, rfl, Nat.sub_le _ _, ⟨?_, ?_, ?_, fun a e he => HE.out a e (List.mem_of_mem_drop he)⟩, HK.out, ?_⟩
  · have := HB3.out
    rw [show ((fr : Int) + (k : Int)) = ((fr + k : Nat) : Int) by omega] at this
    simpa using this
  · have h7 := HRW.out
    have e1 : (ys ++ (cellsE ss).drop (k * 8)).drop (k * 8) = cellsE (ss.drop k) := by
      rw [List.drop_append, HY.out, List.drop_of_length_le (by rw [HY.out]; omega), Nat.sub_self, List.drop_zero, List.nil_append]
      exact cellsE_drop ss k
    rw [e1] at h7
    exact h7
  · have := HF.out; unfold FitB; omega
  · rintro q (rfl | ⟨g, o, e, rfl⟩)
    · exact .inl (.inl rfl)
    · obtain ⟨o', h'⟩ := HA0.out q o e
      exact .inl (.inr ⟨q, o', h', rfl⟩)
end Go.Proofs.YtaknfmionkkdjaaGreat

