/- SamePairs SameRows SameInts ObjSame SetKit MachOnceCore -/
import Derived.Test.YthfnnieklkaefaaGreatR01
import Derived.Test.YthfnnieklkaefaaGreatR03
import Derived.Test.YthfnnieklkaefaaGreatR07
import Derived.BigQuiet
import Derived.Deep.DeepCutAuto
import Derived.Deep.DrawnRows
import Derived.Deep.QuietTactic
import Derived.Deep.RegionHeld3
import Derived.Deep.RegionWith
import Derived.WalkSmall
import Derived.IntWalk
import Derived.OwnWalk
import Derived.ProofKit
import Derived.Test.YthfnnieklkaefaaGreatRows
import Derived.WalkKit
import Derived.WalkLawsBesides
import Derived.WalkSpells
import Derived.Deep.RegionLaw
namespace Go.Proofs.YthfnnieklkaefaaGreat
open Go.RowKit
set_option linter.unusedVariables false
set_option maxRecDepth 100000 in
set_option maxHeartbeats 2000000 in
theorem samePs_any (w : World) {A A' : Option Addr} {n c n' c' B B' : Nat} {ps ps' : List Pr} (hn : n ≤ 100000) (hn' : n' ≤ 100000) (hb : BytesP ps) (hb' : BytesP ps') (h : RdP w B A n ps) (h' : RdP w B' A' n' ps') :
    Calls Tryz.prog 39 #[.slice A n c, .slice A' n' c'] w fun e w' => e = .returned (.bool (decide (ps = ps'))) ∧ ∃ m, w' = w.drewN m := by
  have hl : ps.length = n := h.length
  have hl' : ps'.length = n' := h'.length
  by_cases hne : n = n'
  · subst hne
    have HL := Lib.hid hl
    have HL' := Lib.hid hl'
    have H := Lib.hid h.fit
    have H' := Lib.hid h'.fit
    have HB := Lib.hid hb
    have HB' := Lib.hid hb'
    clear h h' hl hl' hb hb'
    go_enter Tryz.func39, Tryz.ntmps39
    go_wp2
    go_loopw [5] (fun i wr => ∃ j : Nat, j ≤ n ∧ i = .int .i64 j ∧ Hid (∀ i, i < j → ps[i]? = ps'[i]?) ∧ ∃ m, wr = w.drewN m) (fun i _ => n - (intOf i).toNat)
    case atStart => exact ⟨0, Nat.zero_le _, rfl, Lib.hid (fun i hi => absurd hi (by omega)), 0, rfl⟩
    case round =>
      obtain ⟨j, hj, rfl, HS, m, hm⟩ := hrel
      have HM := Lib.hid hm
      by_cases hlt : j < n
      · obtain ⟨b, o, p, A1, c1, A2, c2, rfl, hp, hcell1, hcell2, hrd1, hrd2⟩ := H.out.at hlt
        obtain ⟨b', o', p', A3, c3, A4, c4, rfl, hp', hcell3, hcell4, hrd3, hrd4⟩ := H'.out.at hlt
        have q1 : wr.cell? ⟨b, o + j * 2, none⟩ = some (.slice A1 p.1.length c1) := by rw [hm]; exact hcell1
        have q2 : wr.cell? ⟨b, o + j * 2 + 1, none⟩ = some (.slice A2 p.2.length c2) := by rw [hm]; exact hcell2
        have q3 : wr.cell? ⟨b', o' + j * 2, none⟩ = some (.slice A3 p'.1.length c3) := by rw [hm]; exact hcell3
        have q4 : wr.cell? ⟨b', o' + j * 2 + 1, none⟩ = some (.slice A4 p'.2.length c4) := by rw [hm]; exact hcell4
        have hv : IntKind.i64.wrap ((j : Int) + 1) = (j : Int) + 1 := IntWalk.i64_in _ (by omega)
        have s1 : ∀ q, (convert 24 9 (.slice A1 p.1.length c1)).run Tryz.prog (wr.drewN q) = .ok (.string (strB p.1)) (wr.drewN q) := fun q => by rw [hm]; exact str_of (c := c1) ((hrd1.drewN m).drewN q)
        have s2 : ∀ q, (convert 24 9 (.slice A2 p.2.length c2)).run Tryz.prog (wr.drewN q) = .ok (.string (strB p.2)) (wr.drewN q) := fun q => by rw [hm]; exact str_of (c := c2) ((hrd2.drewN m).drewN q)
        have s3 : ∀ q, (convert 24 9 (.slice A3 p'.1.length c3)).run Tryz.prog (wr.drewN q) = .ok (.string (strB p'.1)) (wr.drewN q) := fun q => by rw [hm]; exact str_of (c := c3) ((hrd3.drewN m).drewN q)
        have s4 : ∀ q, (convert 24 9 (.slice A4 p'.2.length c4)).run Tryz.prog (wr.drewN q) = .ok (.string (strB p'.2)) (wr.drewN q) := fun q => by rw [hm]; exact str_of (c := c4) ((hrd4.drewN m).drewN q)
        have t1 := strL_eq (HB.out p (List.mem_of_getElem? hp)).1 (HB'.out p' (List.mem_of_getElem? hp')).1
        have t2 := strL_eq (HB.out p (List.mem_of_getElem? hp)).2 (HB'.out p' (List.mem_of_getElem? hp')).2
        have HP := Lib.hid hp
        have HP' := Lib.hid hp'
        clear hp hp' hcell1 hcell2 hcell3 hcell4 hrd1 hrd2 hrd3 hrd4 hm
        have HNE : Hid (p ≠ p' → decide (ps = ps') = false) := Lib.hid (fun hne => by
          rw [decide_eq_false_iff_not]
          rintro rfl
          have h1 := HP.out
          rw [HP'.out] at h1
          injection h1 with h1
          exact hne h1.symm)
        by_cases he1 : p.1 = p'.1
        · rw [decide_eq_true he1] at t1
          by_cases he2 : p.2 = p'.2
          · rw [decide_eq_true he2] at t2
            have HE := Lib.hid (show p = p' from Prod.ext he1 he2)
            clear he1 he2
            go_wp2
            go_quiet (fail)
            go_wp2
            go_roundw
            case rel =>
              refine ⟨j + 1, by omega, by go_num, Lib.hid (fun i hi => ?_), m + nq, by rw [HM.out, World.drewN_drewN]⟩
              rcases Nat.lt_or_ge i j with h1 | h1
              · exact HS.out i h1
              · obtain rfl : i = j := by omega
                rw [HP.out, HP'.out, HE.out]
            case measure => simp [intOf]; omega
          · rw [decide_eq_false he2] at t2
            have HE := Lib.hid (HNE.out (fun e => he2 (by rw [e])))
            clear he1 he2
            go_wp2
            go_quiet (fail)
            go_wp2
            go_ret
            exact ⟨ret_bool HE.out.symm, m + nq, by rw [HM.out, World.drewN_drewN]⟩
        · rw [decide_eq_false he1] at t1
          have HE := Lib.hid (HNE.out (fun e => he1 (by rw [e])))
          clear he1
          go_wp2
          go_quiet (fail)
          go_wp2
          go_ret
          exact ⟨ret_bool HE.out.symm, m + nq, by rw [HM.out, World.drewN_drewN]⟩
      · have HE := Lib.hid (show decide (ps = ps') = true by
          rw [decide_eq_true_iff]
          apply List.ext_getElem?
          intro i
          rcases Nat.lt_or_ge i n with h1 | h1
          · exact HS.out i (by omega)
          · rw [List.getElem?_eq_none (by have := HL.out; omega), List.getElem?_eq_none (by have := HL'.out; omega)])
        clear hm
        go_wp2
        go_ret
        exact ⟨ret_bool HE.out.symm, m, HM.out⟩
  · have HE := Lib.hid (show decide (ps = ps') = false by rw [decide_eq_false_iff_not]; rintro rfl; omega)
    have hd : ((n : Int) == (n' : Int)) = false := by simp; omega
    have hd2 : ((n : Int) != (n' : Int)) = true := by simp; omega
    clear h h' hl hl' hne
    go_enter Tryz.func39, Tryz.ntmps39
    go_wp2
    go_ret
    exact ⟨ret_bool HE.out.symm, 0, rfl⟩
theorem samePs_below (w : World) {A A' : Option Addr} {n c n' c' B B' : Nat} {ps ps' : List Pr} (hn : n ≤ 100000) (hn' : n' ≤ 100000) (hb : BytesP ps) (hb' : BytesP ps') (h : RdP w B A n ps) (h' : RdP w B' A' n' ps') :
    Calls Tryz.prog 39 #[.slice A n c, .slice A' n' c'] w fun e w' => e = .returned (.bool (decide (ps = ps'))) ∧ Below w.heap.size w w' :=
  (samePs_any w hn hn' hb hb' h h').mono fun e w' ⟨h1, m, h2⟩ => ⟨h1, by rw [h2]; exact belowN_d m⟩
end Go.Proofs.YthfnnieklkaefaaGreat

namespace Go.Proofs.YthfnnieklkaefaaGreat
open Go.RowKit
set_option linter.unusedVariables false
set_option maxRecDepth 100000 in
set_option maxHeartbeats 1000000 in
theorem sameRows_any (w : World) {A A' : Option Addr} {n c n' c' B B' : Nat} {qs qs' : List (List Nat)} (hb : BytesL qs) (hb' : BytesL qs') (h : RdQ w B A n qs) (h' : RdQ w B' A' n' qs') (hn : n ≤ maxLen) (hn' : n' ≤ maxLen) :
    Calls Tryz.prog 37 #[.slice A n c, .slice A' n' c'] w fun e w' => e = .returned (.bool (decide (qs = qs'))) ∧ ∃ k, w' = w.drewN k := by
  have hl : qs.length = n := h.length
  have hl' : qs'.length = n' := h'.length
  unfold maxLen at hn hn'
  by_cases hne : n = n'
  · subst hne
    have HN : Hid (n ≤ 9223372036854775807) := Lib.hid (by omega)
    have HL := Lib.hid hl
    have HL' := Lib.hid hl'
    have H := Lib.hid h
    have H' := Lib.hid h'
    have HBY := Lib.hid hb
    have HBY' := Lib.hid hb'
    clear h h' hl hl' hn hn' hb hb'
    go_enter Tryz.func37, Tryz.ntmps37
    go_wp2
    go_loopw [5] (fun i wr => ∃ k : Nat, k ≤ n ∧ i = .int .i64 k ∧ (∀ j, j < k → qs[j]? = qs'[j]?) ∧ ∃ m, wr = w.drewN m) (fun i _ => n - (intOf i).toNat)
    case atStart => exact ⟨0, Nat.zero_le _, rfl, fun j hj => absurd hj (by omega), 0, rfl⟩
    case round =>
      obtain ⟨k, hk, rfl, hs, m, hm⟩ := hrel
      have hkm : (k : Int) ≤ 9223372036854775806 ∨ k = n := by have := HN.out; omega
      by_cases hlt : k < n
      · have hW : Below w.heap.size w wr := by rw [hm]; exact (Below.refl w.heap.size w).trans ⟨rfl, rfl, rfl, Nat.le_refl _, fun _ _ => rfl⟩
        obtain ⟨b, o, l, A1, c1, rfl, hz, hc, hr1⟩ := (H.out.fit.below hW).at hlt
        obtain ⟨b', o', l', A2, c2, rfl, hz', hc', hr2⟩ := (H'.out.fit.below hW).at hlt
        have q1 := fun i => str_of (c := c1) (hr1.drewN i)
        have q2 := fun i => str_of (c := c2) (hr2.drewN i)
        have q3 := strL_eq (HBY.out l (List.mem_of_getElem? hz)) (HBY'.out l' (List.mem_of_getElem? hz'))
        have hv : IntKind.i64.wrap ((k : Int) + 1) = (k : Int) + 1 := IntWalk.i64_in _ (by have := HN.out; omega)
        have HS := Lib.hid hs
        have HZ := Lib.hid hz
        have HZ' := Lib.hid hz'
        have HM := Lib.hid hm
        clear hs hz hz' hm hkm hr1 hr2 hW
        by_cases he : l = l'
        · subst he
          rw [decide_eq_true rfl] at q3
          go_wp2
          go_quiet (fail)
          go_wp2
          go_roundw
          case rel =>
            refine ⟨k + 1, by omega, by go_num, fun j hj => ?_, m + nq, by rw [HM.out, World.drewN_drewN]⟩
            rcases Nat.lt_or_ge j k with h1 | h1
            · exact HS.out j h1
            · obtain rfl : j = k := by omega
              rw [HZ.out, HZ'.out]
          case measure => simp [intOf]; omega
        · rw [decide_eq_false he] at q3
          have HE := Lib.hid (show decide (qs = qs') = false by
            rw [decide_eq_false_iff_not]
            rintro rfl
            have h1 := HZ.out
            rw [HZ'.out] at h1
            injection h1 with h1
            exact he h1.symm)
          clear he
          go_wp2
          go_quiet (fail)
          go_wp2
          go_ret
          exact ⟨ret_bool HE.out.symm, m + nq, by rw [HM.out, World.drewN_drewN]⟩
      · have hkn : k = n := by omega
        have HE := Lib.hid (show decide (qs = qs') = true by
          rw [decide_eq_true_iff]
          apply List.ext_getElem?
          intro j
          rcases Nat.lt_or_ge j n with h1 | h1
          · exact hs j (by omega)
          · rw [List.getElem?_eq_none (by have := HL.out; omega), List.getElem?_eq_none (by have := HL'.out; omega)])
        have HM := Lib.hid hm
        clear hs hkn hm hkm
        go_wp2
        go_ret
        exact ⟨ret_bool HE.out.symm, m, HM.out⟩
  · have HE := Lib.hid (show decide (qs = qs') = false by
      rw [decide_eq_false_iff_not]; rintro rfl; omega)
    have hd : ((n : Int) == (n' : Int)) = false := by simp; omega
    have hd2 : ((n : Int) != (n' : Int)) = true := by simp; omega
    clear h h' hl hl' hn hn' hne
    go_enter Tryz.func37, Tryz.ntmps37
    go_wp2
    go_ret
    exact ⟨ret_bool HE.out.symm, 0, rfl⟩
theorem sameRows_below (w : World) {A A' : Option Addr} {n c n' c' B B' : Nat} {qs qs' : List (List Nat)} (hb : BytesL qs) (hb' : BytesL qs') (h : RdQ w B A n qs) (h' : RdQ w B' A' n' qs') (hn : n ≤ maxLen) (hn' : n' ≤ maxLen) :
    Calls Tryz.prog 37 #[.slice A n c, .slice A' n' c'] w fun e w' => e = .returned (.bool (decide (qs = qs'))) ∧ Below w.heap.size w w' :=
  (sameRows_any w hb hb' h h' hn hn').mono fun e w' h => ⟨h.1, by obtain ⟨k, hk⟩ := h.2; rw [hk]; exact ⟨rfl, rfl, rfl, Nat.le_refl _, fun _ _ => rfl⟩⟩
end Go.Proofs.YthfnnieklkaefaaGreat

namespace Go.Proofs.YthfnnieklkaefaaGreat
open Go.RowKit
set_option linter.unusedVariables false
set_option maxHeartbeats 1000000 in
theorem same_any (w : World) (A A' : Option Addr) (n c n' c' B B' : Nat) (zs zs' : List Int) (h : Rd w B A n (iv zs)) (h' : Rd w B' A' n' (iv zs')) (hn : n ≤ maxLen) (hn' : n' ≤ maxLen) :
    Calls Tryz.prog 38 #[.slice A n c, .slice A' n' c'] w fun e w' => e = .returned (.bool (decide (zs = zs'))) ∧ ∃ k, w' = w.drewN k := by
  have hl : zs.length = n := by have := h.1; rwa [iv_length] at this
  have hl' : zs'.length = n' := by have := h'.1; rwa [iv_length] at this
  unfold maxLen at hn hn'
  by_cases hne : n = n'
  · subst hne
    have HN : Hid (n ≤ 9223372036854775807) := Lib.hid (by omega)
    have HL := Lib.hid hl
    have HL' := Lib.hid hl'
    have H := Lib.hid h
    have H' := Lib.hid h'
    clear h h' hl hl' hn hn'
    go_enter Tryz.func38, Tryz.ntmps38
    go_wp2
    go_loopw [5] (fun i wr => ∃ k : Nat, k ≤ n ∧ i = .int .i64 k ∧ (∀ j, j < k → zs[j]? = zs'[j]?) ∧ ∃ m, wr = w.drewN m) (fun i _ => n - (intOf i).toNat)
    case atStart => exact ⟨0, Nat.zero_le _, rfl, fun j hj => absurd hj (by omega), 0, rfl⟩
    case round =>
      obtain ⟨k, hk, rfl, hs, m, hm⟩ := hrel
      have hkm : (k : Int) ≤ 9223372036854775806 ∨ k = n := by have := HN.out; omega
      by_cases hlt : k < n
      · obtain ⟨z, hz⟩ : ∃ z, zs[k]? = some z := ⟨_, List.getElem?_eq_getElem (by have := HL.out; omega)⟩
        obtain ⟨z', hz'⟩ : ∃ z, zs'[k]? = some z := ⟨_, List.getElem?_eq_getElem (by have := HL'.out; omega)⟩
        obtain ⟨b, o, rfl, _⟩ := H.out.int_at hlt
        obtain ⟨b', o', rfl, _⟩ := H'.out.int_at hlt
        have hc : wr.cell? ⟨b, o + k, none⟩ = some (.int .i64 z) := by rw [hm]; exact H.out.int_cell hlt hz
        have hc' : wr.cell? ⟨b', o' + k, none⟩ = some (.int .i64 z') := by rw [hm]; exact H'.out.int_cell hlt hz'
        have hv : IntKind.i64.wrap ((k : Int) + 1) = (k : Int) + 1 := IntWalk.i64_in _ (by have := HN.out; omega)
        have HS := Lib.hid hs
        have HZ := Lib.hid hz
        have HZ' := Lib.hid hz'
        have HM := Lib.hid hm
        clear hs hz hz' hm hkm
        by_cases he : z = z'
        · subst he
          go_wp2
          go_quiet (fail)
          go_wp2
          go_roundw
          case rel =>
            refine ⟨k + 1, by omega, by go_num, fun j hj => ?_, m + nq, by rw [HM.out, World.drewN_drewN]⟩
            rcases Nat.lt_or_ge j k with h1 | h1
            · exact HS.out j h1
            · obtain rfl : j = k := by omega
              rw [HZ.out, HZ'.out]
          case measure => simp [intOf]; omega
        · have he' : (z == z') = false := by simpa using he
          have he2 : (z != z') = true := by simpa using he
          have HE := Lib.hid (show decide (zs = zs') = false by
            rw [decide_eq_false_iff_not]
            rintro rfl
            have h1 := HZ.out
            rw [HZ'.out] at h1
            injection h1 with h1
            exact he h1.symm)
          clear he
          go_wp2
          go_quiet (fail)
          go_wp2
          go_ret
          exact ⟨ret_bool HE.out.symm, m + nq, by rw [HM.out, World.drewN_drewN]⟩
      · have hkn : k = n := by omega
        have HE := Lib.hid (show decide (zs = zs') = true by
          rw [decide_eq_true_iff]
          apply List.ext_getElem?
          intro j
          rcases Nat.lt_or_ge j n with h1 | h1
          · exact hs j (by omega)
          · rw [List.getElem?_eq_none (by have := HL.out; omega), List.getElem?_eq_none (by have := HL'.out; omega)])
        have HM := Lib.hid hm
        clear hs hkn hm hkm
        go_wp2
        go_ret
        exact ⟨ret_bool HE.out.symm, m, HM.out⟩
  · have HE := Lib.hid (show decide (zs = zs') = false by
      rw [decide_eq_false_iff_not]; rintro rfl; omega)
    have hd : ((n : Int) == (n' : Int)) = false := by simp; omega
    have hd2 : ((n : Int) != (n' : Int)) = true := by simp; omega
    clear h h' hl hl' hn hn' hne
    go_enter Tryz.func38, Tryz.ntmps38
    go_wp2
    go_ret
    exact ⟨ret_bool HE.out.symm, 0, rfl⟩
end Go.Proofs.YthfnnieklkaefaaGreat

namespace Go.Proofs.YthfnnieklkaefaaGreat
open Go.RowKit
set_option linter.unusedVariables false
/-- alike -/
def Ob.same (s t : Ob) : Bool := decide (s.reg = t.reg) && (decide (s.q = t.q) && (decide (s.lk = t.lk) && decide (s.mp = t.mp)))
theorem Ob.same_self (s : Ob) : s.same s = true := by simp [Ob.same]
theorem sameI_below (w : World) (A A' : Option Addr) (n c n' c' B B' : Nat) (zs zs' : List Int) (h : Rd w B A n (iv zs)) (h' : Rd w B' A' n' (iv zs')) (hn : n ≤ maxLen) (hn' : n' ≤ maxLen) :
    Calls Tryz.prog 38 #[.slice A n c, .slice A' n' c'] w fun e w' => e = .returned (.bool (decide (zs = zs'))) ∧ Below w.heap.size w w' :=
  (same_any w A A' n c n' c' B B' zs zs' h h' hn hn').mono fun e w' ⟨h1, k, h2⟩ => ⟨h1, by first | (rw [h2]; exact belowN_d k) | (subst h2; exact belowN_d k)⟩
set_option maxRecDepth 100000 in
set_option maxHeartbeats 2000000 in
theorem sameO_any (w : World) {a a' : OA} {s s' : Ob} {B B' : Nat} (hI : s.Inv) (hI' : s'.Inv) (h : RdO w B a s) (h' : RdO w B' a' s') :
    Calls Tryz.prog 12 #[objV a s, objV a' s'] w fun e w' => e = .returned (.bool (s.same s')) ∧ Below w.heap.size w w' := by
  obtain ⟨A0, c0, A1, c1, A2, c2, A3, c3⟩ := a
  obtain ⟨D0, d0, D1, d1, D2, d2, D3, d3⟩ := a'
  obtain ⟨wz, hwz⟩ : ∃ wz, (w.alloc (.cells (objC ⟨A0, c0, A1, c1, A2, c2, A3, c3⟩ s) 34)).alloc (.cells (objC ⟨D0, d0, D1, d1, D2, d2, D3, d3⟩ s') 34) = wz := ⟨_, rfl⟩
  have hbz : Below w.heap.size w wz := by rw [← hwz]; exact ((Below.refl _ _).alloc (Nat.le_refl _) _).alloc (by simp) _
  have H := Lib.hid (h.fit.below hbz)
  have H' := Lib.hid (h'.fit.below hbz)
  have HI := Lib.hid hI
  have HI' := Lib.hid hI'
  have HW := Lib.hid hwz
  have HBZ := Lib.hid hbz
  have k1 := str_of (c := c0) H.out.r0
  have k2 := str_of (c := d0) H'.out.r0
  have k3 := strL_eq hI.regb hI'.regb
  have m1 : s.q.length ≤ maxLen := by have := hI.ql; unfold maxLen; omega
  have m2 : s'.q.length ≤ maxLen := by have := hI'.ql; unfold maxLen; omega
  have m3 : s.lk.length ≤ maxLen := by have := hI.lkl; unfold maxLen; omega
  have m4 : s'.lk.length ≤ maxLen := by have := hI'.lkl; unfold maxLen; omega
  have m5 : s.mp.length ≤ 100000 := by have := hI.mp.few; omega
  have m6 : s'.mp.length ≤ 100000 := by have := hI'.mp.few; omega
  have C1 : Hid (∀ wx, Below wz.heap.size wz wx → Calls Tryz.prog 37 #[.slice A1 s.q.length c1, .slice D1 s'.q.length d1] wx fun e w' => e = .returned (.bool (decide (s.q = s'.q))) ∧ Below wx.heap.size wx w') := Lib.hid (fun wx hb => sameRows_below wx hI.qb hI'.qb (H.out.r1.fit.below hb) (H'.out.r1.fit.below hb) m1 m2)
  have C2 : Hid (∀ wx, Below wz.heap.size wz wx → Calls Tryz.prog 38 #[.slice A2 s.lk.length c2, .slice D2 s'.lk.length d2] wx fun e w' => e = .returned (.bool (decide (s.lk = s'.lk))) ∧ Below wx.heap.size wx w') := Lib.hid (fun wx hb => sameI_below wx _ _ _ _ _ _ _ _ _ _ (H.out.r2.fit.below hb) (H'.out.r2.fit.below hb) m3 m4)
  have C3 : Hid (∀ wx, Below wz.heap.size wz wx → Calls Tryz.prog 39 #[.slice A3 s.mp.length c3, .slice D3 s'.mp.length d3] wx fun e w' => e = .returned (.bool (decide (s.mp = s'.mp))) ∧ Below wx.heap.size wx w') := Lib.hid (fun wx hb => samePs_below wx m5 m6 hI.mp.byt hI'.mp.byt (H.out.r3.fit.below hb) (H'.out.r3.fit.below hb))
  have HV : Hid (Blk wz w.heap.size 34 (objC ⟨A0, c0, A1, c1, A2, c2, A3, c3⟩ s) ∧ Blk wz (w.heap.size + 1) 34 (objC ⟨D0, d0, D1, d1, D2, d2, D3, d3⟩ s')) := Lib.hid (by
    rw [← hwz]
    refine ⟨(Blk.new _ _ _).alloc _, ?_⟩
    have := Blk.new (w.alloc (.cells (objC ⟨A0, c0, A1, c1, A2, c2, A3, c3⟩ s) 34)) 34 (objC ⟨D0, d0, D1, d1, D2, d2, D3, d3⟩ s')
    rwa [World.size_alloc] at this)
  clear h h' hI hI' hwz hbz m1 m2 m3 m4 m5 m6
  obtain ⟨p1, hp1⟩ : ∃ p, decide (s.reg = s'.reg) = p := ⟨_, rfl⟩
  obtain ⟨p2, hp2⟩ : ∃ p, decide (s.q = s'.q) = p := ⟨_, rfl⟩
  obtain ⟨p3, hp3⟩ : ∃ p, decide (s.lk = s'.lk) = p := ⟨_, rfl⟩
  obtain ⟨p4, hp4⟩ : ∃ p, decide (s.mp = s'.mp) = p := ⟨_, rfl⟩
  have HS := Lib.hid (show s.same s' = (p1 && (p2 && (p3 && p4))) by unfold Ob.same; rw [hp1, hp2, hp3, hp4])
  rw [hp1] at k3
  rw [hp2] at C1
  rw [hp3] at C2
  rw [hp4] at C3
  rw [HS.out]
  clear hp1 hp2 hp3 hp4 HS
  unfold objV
  simp only [objC] at HW HV ⊢
  go_enter Tryz.func12, Tryz.ntmps12
  go_upto_region 1 with fail
  rw [HW.out]
  obtain ⟨x0, x1, x2, x3, _, _, _, _⟩ := four HV.out.1
  obtain ⟨y0, y1, y2, y3, _, _, _, _⟩ := four HV.out.2
  cases p1
  case false =>
    go_wp2_with (first
      | (go_at_call 37; refine (C1.out _ (Below.refl _ _)).mono ?_; rintro e w2 ⟨rfl, hb2⟩
         have hv2 := And.intro (HV.out.1.below hb2) (HV.out.2.below hb2)
         obtain ⟨x0, x1, x2, x3, _, _, _, _⟩ := four hv2.1
         obtain ⟨y0, y1, y2, y3, _, _, _, _⟩ := four hv2.2
         clear hv2)
      | (go_at_call 38; refine (C2.out _ hb2).mono ?_; rintro e w3 ⟨rfl, hb3⟩
         have hb3' := hb2.trans (hb3.mono hb2.size)
         have hv3 := And.intro (HV.out.1.below hb3') (HV.out.2.below hb3')
         obtain ⟨x0, x1, x2, x3, _, _, _, _⟩ := four hv3.1
         obtain ⟨y0, y1, y2, y3, _, _, _, _⟩ := four hv3.2
         clear hv3)
      | (go_at_call 39; refine (C3.out _ hb3').mono ?_; rintro e w4 ⟨rfl, hb4⟩)
      | fail)
    go_ret
    exact ⟨rfl, HBZ.out⟩
  case true =>
    cases p2
    case false =>
      go_wp2_with (first
        | (go_at_call 37; refine (C1.out _ (Below.refl _ _)).mono ?_; rintro e w2 ⟨rfl, hb2⟩
           have hv2 := And.intro (HV.out.1.below hb2) (HV.out.2.below hb2)
           obtain ⟨x0, x1, x2, x3, _, _, _, _⟩ := four hv2.1
           obtain ⟨y0, y1, y2, y3, _, _, _, _⟩ := four hv2.2
           clear hv2)
        | (go_at_call 38; refine (C2.out _ hb2).mono ?_; rintro e w3 ⟨rfl, hb3⟩
           have hb3' := hb2.trans (hb3.mono hb2.size)
           have hv3 := And.intro (HV.out.1.below hb3') (HV.out.2.below hb3')
           obtain ⟨x0, x1, x2, x3, _, _, _, _⟩ := four hv3.1
           obtain ⟨y0, y1, y2, y3, _, _, _, _⟩ := four hv3.2
           clear hv3)
        | (go_at_call 39; refine (C3.out _ hb3').mono ?_; rintro e w4 ⟨rfl, hb4⟩)
        | fail)
      go_ret
      exact ⟨rfl, HBZ.out.trans (hb2.mono HBZ.out.size)⟩
    case true =>
      cases p3
      case false =>
        go_wp2_with (first
          | (go_at_call 37; refine (C1.out _ (Below.refl _ _)).mono ?_; rintro e w2 ⟨rfl, hb2⟩
             have hv2 := And.intro (HV.out.1.below hb2) (HV.out.2.below hb2)
             obtain ⟨x0, x1, x2, x3, _, _, _, _⟩ := four hv2.1
             obtain ⟨y0, y1, y2, y3, _, _, _, _⟩ := four hv2.2
             clear hv2)
          | (go_at_call 38; refine (C2.out _ hb2).mono ?_; rintro e w3 ⟨rfl, hb3⟩
             have hb3' := hb2.trans (hb3.mono hb2.size)
             have hv3 := And.intro (HV.out.1.below hb3') (HV.out.2.below hb3')
             obtain ⟨x0, x1, x2, x3, _, _, _, _⟩ := four hv3.1
             obtain ⟨y0, y1, y2, y3, _, _, _, _⟩ := four hv3.2
             clear hv3)
          | (go_at_call 39; refine (C3.out _ hb3').mono ?_; rintro e w4 ⟨rfl, hb4⟩)
          | fail)
        go_ret
        exact ⟨rfl, HBZ.out.trans (hb3'.mono HBZ.out.size)⟩
      case true =>
        cases p4
        case false =>
          go_wp2_with (first
            | (go_at_call 37; refine (C1.out _ (Below.refl _ _)).mono ?_; rintro e w2 ⟨rfl, hb2⟩
               have hv2 := And.intro (HV.out.1.below hb2) (HV.out.2.below hb2)
               obtain ⟨x0, x1, x2, x3, _, _, _, _⟩ := four hv2.1
               obtain ⟨y0, y1, y2, y3, _, _, _, _⟩ := four hv2.2
               clear hv2)
            | (go_at_call 38; refine (C2.out _ hb2).mono ?_; rintro e w3 ⟨rfl, hb3⟩
               have hb3' := hb2.trans (hb3.mono hb2.size)
               have hv3 := And.intro (HV.out.1.below hb3') (HV.out.2.below hb3')
               obtain ⟨x0, x1, x2, x3, _, _, _, _⟩ := four hv3.1
               obtain ⟨y0, y1, y2, y3, _, _, _, _⟩ := four hv3.2
               clear hv3)
            | (go_at_call 39; refine (C3.out _ hb3').mono ?_; rintro e w4 ⟨rfl, hb4⟩)
            | fail)
          go_ret
          exact ⟨rfl, (HBZ.out.trans (hb3'.mono HBZ.out.size)).trans (hb4.mono (by have h1 := HBZ.out.size; have h2 := hb3'.size; omega))⟩
        case true =>
          go_wp2_with (first
            | (go_at_call 37; refine (C1.out _ (Below.refl _ _)).mono ?_; rintro e w2 ⟨rfl, hb2⟩
               have hv2 := And.intro (HV.out.1.below hb2) (HV.out.2.below hb2)
               obtain ⟨x0, x1, x2, x3, _, _, _, _⟩ := four hv2.1
               obtain ⟨y0, y1, y2, y3, _, _, _, _⟩ := four hv2.2
               clear hv2)
            | (go_at_call 38; refine (C2.out _ hb2).mono ?_; rintro e w3 ⟨rfl, hb3⟩
               have hb3' := hb2.trans (hb3.mono hb2.size)
               have hv3 := And.intro (HV.out.1.below hb3') (HV.out.2.below hb3')
               obtain ⟨x0, x1, x2, x3, _, _, _, _⟩ := four hv3.1
               obtain ⟨y0, y1, y2, y3, _, _, _, _⟩ := four hv3.2
               clear hv3)
            | (go_at_call 39; refine (C3.out _ hb3').mono ?_; rintro e w4 ⟨rfl, hb4⟩)
            | fail)
          go_ret
          exact ⟨rfl, (HBZ.out.trans (hb3'.mono HBZ.out.size)).trans (hb4.mono (by have h1 := HBZ.out.size; have h2 := hb3'.size; omega))⟩
end Go.Proofs.YthfnnieklkaefaaGreat

namespace Go.Proofs.YthfnnieklkaefaaGreat
open Go.RowKit
set_option linter.unusedVariables false
theorem grown_set (W : World) (g i : Nat) (u : Value) : W.grownBy (W.setCell ⟨g, i, none⟩ u) (some g) :=
  ⟨rfl, rfl, rfl, by simp [World.setCell], fun k hk hn => Below.heap_setCell W ⟨g, i, none⟩ u k (by rintro rfl; exact hn rfl)⟩
end Go.Proofs.YthfnnieklkaefaaGreat

namespace Go.Proofs.YthfnnieklkaefaaGreat
open Go.RowKit
set_option linter.unusedVariables false
set_option maxHeartbeats 12000000 in
set_option maxRecDepth 100000 in
theorem machOnce_core (hS : StepC10) (hM : SameC10) (hA : AwakeC10) {A : Option Addr} {n c B : Nat} {zs : List Int} (at_ to_ : Int) (hn : n ≤ maxLen) (w : World) (h : Rd w B A n (iv zs)) :
    Calls Tryz.prog 3 #[.slice A n c, .int .i64 at_, .int .i64 to_] w fun e w' => e = .returned (.bool true) ∧ Below w.heap.size w w' := by
  have hlen : zs.length = n := by have := h.1; rwa [iv_length] at this
  have HR := Lib.hid h.fit
  have hnn : n ≤ 9223372036854775807 := by unfold maxLen at hn; omega
  clear h hn
  go_enter Tryz.func3, Tryz.ntmps3
  go_wp2_with fail
  go_loopw [7, 9, 10] (fun s7 s9 s10 wr => ∃ (k : Nat) (A1 : Option Addr) (c1 : Nat) (es : List En), k ≤ n ∧ k ≤ 30 ∧ s9 = .int .i64 (k : Int) ∧ s7 = .slice A1 k c1 ∧ Hid (0 < k ∨ A1 = none) ∧ Hid (OwnE w wr A1 k c1 es) ∧ Hid (∀ e ∈ es, e.c.Fits) ∧ Hid (Below w.heap.size w wr)) (fun _ s9 _ _ => n - (intOf s9).toNat)
  case atStart => exact ⟨0, none, 0, [], Nat.zero_le _, by omega, rfl, rfl, Lib.hid (Or.inr rfl), Lib.hid (OwnE.nil _ _), Lib.hid (fun e he => by cases he), Lib.hid (Below.refl _ _)⟩
  case round =>
    obtain ⟨k, A1, c1, es, hk, hk30, rfl, rfl, HN0, HO, HF, HB⟩ := hrel
    by_cases hlt : k < n ∧ k < 30
    · obtain ⟨hlt, h30⟩ := hlt
      obtain ⟨z, hz⟩ : ∃ z, zs[k]? = some z := ⟨_, List.getElem?_eq_getElem (by omega)⟩
      have hcell : ∃ b o, A = some ⟨b, o, none⟩ ∧ wr.cell? ⟨b, o + k, none⟩ = some (.int .i64 z) := by
        obtain ⟨b, o, e, _⟩ := (HR.out.below HB.out).int_at hlt
        subst e
        exact ⟨b, o, rfl, (HR.out.below HB.out).int_cell hlt hz⟩
      obtain ⟨b, o, rfl, hc1⟩ := hcell
      have hii : (k : Int) < (n : Int) := by omega
      have hi30 : (k : Int) < 30 := by omega
      have hi0 : (0 : Int) ≤ (k : Int) := by omega
      have ha1 : bits .and .i64 (k : Int) 255 = (k : Int) := by rw [and_255]; omega
      have ha2 : (k : Int).tmod 5 = ((k % 5 : Nat) : Int) := by rw [Int.tmod_eq_emod_of_nonneg hi0]; omega
      have ha3 : (k : Int).tdiv 5 = ((k / 5 : Nat) : Int) := by rw [Int.tdiv_eq_ediv_of_nonneg hi0]; omega
      obtain ⟨x, hx⟩ : ∃ x, k % 5 = x := ⟨_, rfl⟩
      obtain ⟨y, hy⟩ : ∃ y, k / 5 = y := ⟨_, rfl⟩
      rw [hx] at ha2
      rw [hy] at ha3
      have hx5 : x < 5 := by omega
      have hy6 : y < 6 := by omega
      have hw1 : IntKind.i64.wrap (x : Int) = (x : Int) := IntWalk.i64_in _ (by omega)
      have hw2 : IntKind.i64.wrap (y : Int) = (y : Int) := IntWalk.i64_in _ (by omega)
      have hw3 : IntKind.i64.wrap ((x : Int) + 1) = (x : Int) + 1 := IntWalk.i64_in _ (by omega)
      have hw4 : IntKind.i64.wrap ((y : Int) + 1) = (y : Int) + 1 := IntWalk.i64_in _ (by omega)
      have hv1 : IntKind.i64.wrap ((k : Int) + 1) = (k : Int) + 1 := IntWalk.i64_in _ (by omega)
      clear hz hx hy
      go_upto_region 6 with (first
        | (go_at_call 8; refine (entryZ_any z k (by omega) _).mono ?_; rintro en w1 ⟨ca, e, rfl, hf, hr, hzz, hb⟩
           unfold entV entC)
        | fail)
      have bb : Below w1.heap.size w1 (w1.alloc (.cells #[.int .i64 e.s, .int .i64 e.q, .int .i64 e.c.kind, .int .i64 e.c.who, .slice ca.Ak e.c.key.length ca.ck, .slice ca.Av e.c.val.length ca.cv, .slice ca.Ao e.c.old.length ca.co] 28)) := (Below.refl _ _).alloc (Nat.le_refl _) _
      have bc := hb.trans (bb.mono hb.size)
      have HK := Lib.hid (Blk.new w1 28 #[.int .i64 e.s, .int .i64 e.q, .int .i64 e.c.kind, .int .i64 e.c.who, .slice ca.Ak e.c.key.length ca.ck, .slice ca.Av e.c.val.length ca.cv, .slice ca.Ao e.c.old.length ca.co])
      have HRC := Lib.hid (hr.below' bb)
      have HZ := Lib.hid hzz
      have HFE := Lib.hid hf
      have HO2 := Lib.hid (HO.out.below bc)
      have HB2 := Lib.hid (HB.out.trans (bc.mono HB.out.size))
      have HGE : Hid (w.heap.size ≤ w1.heap.size) := Lib.hid (Nat.le_trans HB.out.size hb.size)
      have HNE : Hid (∀ p, (Value.slice A1 k c1).ownBlock = some p → p ≠ w1.heap.size) := Lib.hid (fun p hp => by
        obtain ⟨vs, q1, _⟩ := HO.out
        have := (q1.lt p hp).2
        have := hb.size
        omega)
      clear hr hzz hf hb bb bc hc1 HO HB
      generalize w1.alloc (.cells #[.int .i64 e.s, .int .i64 e.q, .int .i64 e.c.kind, .int .i64 e.c.who, .slice ca.Ak e.c.key.length ca.ck, .slice ca.Av e.c.val.length ca.cv, .slice ca.Ao e.c.old.length ca.co] 28) = wa at HK HRC HO2 HB2 ⊢
      obtain ⟨x0, x1, x2, x3, x4, x5, x6⟩ := seven HK.out
      have f0 := HK.out.frozen 0
      have f1 := HK.out.frozen 1
      obtain ⟨e2, he2⟩ : ∃ e2 : En, (⟨(x : Int) + 1, (y : Int) + 1, e.c⟩ : En) = e2 := ⟨_, rfl⟩
      have HFE2 : Hid (e2.c.Fits) := Lib.hid (by rw [← he2]; exact HFE.out)
      go_upto_region 7 with fail
      have k0 := noByte_ent e.s e.q e.c.kind e.c.who ca.Ak ca.Av ca.Ao e.c.key.length ca.ck e.c.val.length ca.cv e.c.old.length ca.co
      have HKE : Hid (Blk ((wa.setCell ⟨w1.heap.size, 0, none⟩ (.int .i64 ((x : Int) + 1))).setCell ⟨w1.heap.size, 1, none⟩ (.int .i64 ((y : Int) + 1))) w1.heap.size 28 #[.int .i64 e2.s, .int .i64 e2.q, .int .i64 e2.c.kind, .int .i64 e2.c.who, .slice ca.Ak e2.c.key.length ca.ck, .slice ca.Av e2.c.val.length ca.cv, .slice ca.Ao e2.c.old.length ca.co]) := Lib.hid (by rw [← he2]; exact (HK.out.set_ 0 _).set_ 1 _)
      have HRC2 : Hid (RdC ((wa.setCell ⟨w1.heap.size, 0, none⟩ (.int .i64 ((x : Int) + 1))).setCell ⟨w1.heap.size, 1, none⟩ (.int .i64 ((y : Int) + 1))) ((wa.setCell ⟨w1.heap.size, 0, none⟩ (.int .i64 ((x : Int) + 1))).setCell ⟨w1.heap.size, 1, none⟩ (.int .i64 ((y : Int) + 1))).heap.size ca e2.c) := Lib.hid (by
        rw [← he2]
        exact (HRC.out.setK (i := 0) (u := .int .i64 ((x : Int) + 1)) HK.out k0).setK (i := 1) (u := .int .i64 ((y : Int) + 1)) (HK.out.set_ 0 _) (k0.set 0 (noInt _)))
      have HO3 : Hid (OwnE w ((wa.setCell ⟨w1.heap.size, 0, none⟩ (.int .i64 ((x : Int) + 1))).setCell ⟨w1.heap.size, 1, none⟩ (.int .i64 ((y : Int) + 1))) A1 k c1 es) := Lib.hid (by
        obtain ⟨vs, q1, q2⟩ := HO2.out
        have hlt1 : ∀ p, (Value.slice A1 k c1).ownBlock = some p → p ≠ w1.heap.size := HNE.out
        have g1 := grown_set wa w1.heap.size 0 (.int .i64 ((x : Int) + 1))
        have g2 := grown_set (wa.setCell ⟨w1.heap.size, 0, none⟩ (.int .i64 ((x : Int) + 1))) w1.heap.size 1 (.int .i64 ((y : Int) + 1))
        have hne : (Value.slice A1 k c1).ownBlock = none ∨ (Value.slice A1 k c1).ownBlock ≠ some w1.heap.size := Or.inr (fun h => hlt1 _ h rfl)
        exact ⟨vs, (q1.kept g1 hne).kept g2 hne, q2.imp fun _ _ h => ⟨(h.1.setK (i := 0) (u := .int .i64 ((x : Int) + 1)) HK.out k0).setK (i := 1) (u := .int .i64 ((y : Int) + 1)) (HK.out.set_ 0 _) (k0.set 0 (noInt _)), h.2⟩⟩)
      have HB3 : Hid (Below w.heap.size w ((wa.setCell ⟨w1.heap.size, 0, none⟩ (.int .i64 ((x : Int) + 1))).setCell ⟨w1.heap.size, 1, none⟩ (.int .i64 ((y : Int) + 1)))) := Lib.hid ((HB2.out.setCell (p := ⟨w1.heap.size, 0, none⟩) HGE.out _).setCell (p := ⟨w1.heap.size, 1, none⟩) HGE.out _)
      clear x0 x1 x2 x3 x4 x5 x6 f0 f1 k0 HK HRC HO2 HB2 he2
      generalize (wa.setCell ⟨w1.heap.size, 0, none⟩ (.int .i64 ((x : Int) + 1))).setCell ⟨w1.heap.size, 1, none⟩ (.int .i64 ((y : Int) + 1)) = wb at HKE HRC2 HO3 HB3 ⊢
      obtain ⟨x0, x1, x2, x3, x4, x5, x6⟩ := seven HKE.out
      obtain ⟨vs, q1, q2⟩ := HO3.out
      have b1 : Below wb.heap.size wb (wb.alloc (.cells #[.int .i64 e2.s, .int .i64 e2.q, .int .i64 e2.c.kind, .int .i64 e2.c.who, .slice ca.Ak e2.c.key.length ca.ck, .slice ca.Av e2.c.val.length ca.cv, .slice ca.Ao e2.c.old.length ca.co] 28)) := (Below.refl _ _).alloc (Nat.le_refl _) _
      have hq1 := ownsRow_below q1 b1
      have HQ2 := Lib.hid q2
      have HB1 := Lib.hid b1
      clear q1 q2 b1
      go_wp2_with (first
        | (at_builtin
           refine wpList_append_E (W := w) cellE (.tmp 42) (.tmp 44) rfl (by rfl) rfl hq1 rfl (Rd.entAt _ ca e2 _ rfl) (entL_one _ _) (by omega) (by omega) (HB3.out.alloc HB3.out.size _) ?_
           intro A3 c3 w3 hown3 hB3 hg3)
        | fail)
      go_roundw
      case rel =>
        refine ⟨k + 1, A3, c3, es ++ [e2], by omega, by omega, by go_num, rfl, Lib.hid (Or.inl (by omega)), Lib.hid ?_, Lib.hid ?_, Lib.hid hB3⟩
        · exact OwnE.snoc hq1 (HQ2.out.imp fun _ _ h => ⟨h.1.below' HB1.out, h.2⟩) (HRC2.out.below' HB1.out) HZ.out HN0.out hg3 hown3
        · intro e' he'
          rcases List.mem_append.1 he' with h1 | h1
          · exact HF.out e' h1
          · simp only [List.mem_cons, List.not_mem_nil, or_false] at h1
            subst h1
            exact HFE2.out
      case measure => simp only [intOf]; omega
    · have hEs : es.length = k := HO.out.length
      by_cases hkn : k < n
      · have hk30' : ¬ k < 30 := fun h => hlt ⟨hkn, h⟩
        have hki : (k : Int) < (n : Int) := by omega
        have hki30 : ¬ (k : Int) < 30 := by omega
        have h0 : ¬ k = 0 := by omega
        have hcap : k ≤ c1 := HO.out.cap
        have HALL0 := Lib.hid HO.out.rd
        have hk0 : ¬ (k : Int) = 0 := by omega
        have hkb : ((k : Int) == 0) = false := by simpa using hk0
        obtain ⟨p, hp, hpk⟩ : ∃ p : Nat, (bits .and .i64 at_ 255).tmod (k : Int) = (p : Int) ∧ p < k := by
          rw [and_255]
          have h1 := Int.emod_nonneg at_ (show (256 : Int) ≠ 0 by omega)
          rw [Int.tmod_eq_emod_of_nonneg h1]
          have h2 := Int.emod_nonneg (at_ % 256) (show (k : Int) ≠ 0 by omega)
          have h3 := Int.emod_lt_of_pos (at_ % 256) (show (0 : Int) < (k : Int) by omega)
          exact ⟨((at_ % 256) % (k : Int)).toNat, by omega, by omega⟩
        have hkp0 : ¬ (k : Int) - (p : Int) = 0 := by omega
        have hkpb : ((k : Int) - (p : Int) == 0) = false := by simpa using hkp0
        obtain ⟨d, hd, hdk⟩ : ∃ d : Nat, (bits .and .i64 to_ 255).tmod ((k : Int) - (p : Int)) = (d : Int) ∧ d < k - p := by
          rw [and_255]
          have h1 := Int.emod_nonneg to_ (show (256 : Int) ≠ 0 by omega)
          rw [Int.tmod_eq_emod_of_nonneg h1]
          have h2 := Int.emod_nonneg (to_ % 256) (show (k : Int) - (p : Int) ≠ 0 by omega)
          have h3 := Int.emod_lt_of_pos (to_ % 256) (show (0 : Int) < (k : Int) - (p : Int) by omega)
          exact ⟨((to_ % 256) % ((k : Int) - (p : Int))).toNat, by omega, by omega⟩
        have hw5 : IntKind.i64.wrap (p : Int) = (p : Int) := IntWalk.i64_in _ (by omega)
        have hw6 : IntKind.i64.wrap ((k : Int) - (p : Int)) = (k : Int) - (p : Int) := IntWalk.i64_in _ (by omega)
        have hw7 : IntKind.i64.wrap (d : Int) = (d : Int) := IntWalk.i64_in _ (by omega)
        obtain ⟨q, hq⟩ : ∃ q, p + d = q := ⟨_, rfl⟩
        have hw8 : IntKind.i64.wrap ((p : Int) + (d : Int)) = (q : Int) := by rw [show (p : Int) + (d : Int) = (q : Int) by omega]; exact IntWalk.i64_in _ (by omega)
        obtain ⟨Q1, hQ1⟩ : ∃ q1, q + 1 = q1 := ⟨_, rfl⟩
        have hw9 : IntKind.i64.wrap ((q : Int) + 1) = (Q1 : Int) := by rw [show (q : Int) + 1 = (Q1 : Int) by omega]; exact IntWalk.i64_in _ (by omega)
        have hqk : q < k := by omega
        have hQk : Q1 ≤ k := by omega
        obtain ⟨ep, hep⟩ : ∃ e, es[p]? = some e := ⟨_, List.getElem?_eq_getElem (by omega)⟩
        obtain ⟨more, hmore⟩ : ∃ x, es.take Q1 ++ [ep] ++ es.drop Q1 = x := ⟨_, rfl⟩
        have HEPP := Lib.hid hep
        have HMOR := Lib.hid hmore.symm
        have HAGN : Hid (Mc.zero.run more = Mc.zero.run es) := Lib.hid (by rw [← hmore, ← hQ1]; exact Mc.run_again Mc.Ok.zero HF.out (by omega) hep)
        have HFM : Hid (∀ e ∈ more, e.c.Fits) := Lib.hid (by
          rw [← hmore]
          intro e he
          rcases List.mem_append.1 he with h1 | h1
          · rcases List.mem_append.1 h1 with h2 | h2
            · exact HF.out e (List.mem_of_mem_take h2)
            · simp only [List.mem_cons, List.not_mem_nil, or_false] at h2
              subst h2
              exact HF.out _ (List.mem_of_getElem? hep)
          · exact HF.out e (List.mem_of_mem_drop h1))
        have hml : more.length = k + 1 := by rw [← hmore, List.length_append, List.length_append, List.length_take, List.length_drop, List.length_singleton]; omega
        have HBW := Lib.hid HB.out
        clear hep hmore hq HN0 HO HB
        rename World => w0
        go_upto_region 12 with fail
        clear hd hp hw5 hw6 hw7 hw8 hkp0 hkpb hdk
        go_cut [8] from 64 to 80 (fun s8 wy => ∃ (A8 : Option Addr) (c8 : Nat), s8 = .slice A8 (k + 1) c8 ∧ Hid (RdE wy wy.heap.size A8 (k + 1) more) ∧ Hid (Below w0.heap.size w0 wy))
        case first =>
          obtain ⟨i0, hi0, hi1, hi2, hi3⟩ := info_parts cellE.info
          obtain ⟨vs, hv1, hv2⟩ := HALL0.out
          have hcl := hv2.len
          obtain ⟨b, o, e, ca, rfl, he, ⟨z0, z1, z2, z3, z4, z5, z6⟩, hrc⟩ := HALL0.out.at hpk
          have hsl := fun w => run_slice_to (P := Tryz.prog) Tryz.underlying23 hi0 (some ⟨b, o, none⟩) k c1 Q1 (by omega) w
          have hsf := fun w => run_slice_fromS_ (P := Tryz.prog) Tryz.underlying23 hi0 hi2 (some ⟨b, o, none⟩) k c1 Q1 (by omega) w
          have HR1 := Lib.hid (hv1.take (Nat.mul_le_mul_right 7 (show Q1 ≤ k by omega)))
          have HR3 := Lib.hid (hv1.dropS (k := Q1) (by omega) hcap)
          have HC1 := Lib.hid (hv2.take Q1)
          have HC3 := Lib.hid (hv2.drop Q1)
          have HRC := Lib.hid hrc
          have HEP := Lib.hid he
          have HCL : Hid (∀ wy, Below w0.heap.size w0 wy → (wy.cell? ⟨b, o + p * 7, none⟩ = some (.int .i64 e.s) ∧ wy.cell? ⟨b, o + p * 7 + 1, none⟩ = some (.int .i64 e.q) ∧ wy.cell? ⟨b, o + p * 7 + 2, none⟩ = some (.int .i64 e.c.kind) ∧ wy.cell? ⟨b, o + p * 7 + 3, none⟩ = some (.int .i64 e.c.who) ∧ wy.cell? ⟨b, o + p * 7 + 4, none⟩ = some (.slice ca.Ak e.c.key.length ca.ck) ∧ wy.cell? ⟨b, o + p * 7 + 5, none⟩ = some (.slice ca.Av e.c.val.length ca.cv) ∧ wy.cell? ⟨b, o + p * 7 + 6, none⟩ = some (.slice ca.Ao e.c.old.length ca.co))) :=
            Lib.hid (fun wy hb => ⟨cell_of hb z0, cell_of hb z1, cell_of hb z2, cell_of hb z3, cell_of hb z4, cell_of hb z5, cell_of hb z6⟩)
          clear hv1 hv2 hcl hrc z0 z1 z2 z3 z4 z5 z6 hi0 hi1 hi2 hi3
          have hS0 : Below w0.heap.size w0 w0.drew := (Below.refl _ _).drew
          refine wp_region_held_drew (S := fun w' => Below w0.heap.size w0 w') (by kernel_rfl) hS0 (fun _ => ?_)
          have hS := Lib.hid hS0
          clear hS0
          generalize w0.drew = wd at hS ⊢
          refine wpAnyH_take (i := 1) (v := .slice (some ⟨b, o, none⟩) k c1) rfl (by kernel_rfl) (by kernel_rfl) (by kernel_rfl) (fun _ _ _ h => h) (Or.inl ⟨by kernel_rfl, fun w _ => by go_simp⟩) hS.out ?_
          refine wpAnyH_take (i := 2) (v := .int .i64 (q : Int)) rfl (by kernel_rfl) (by kernel_rfl) (by kernel_rfl) (fun _ _ _ h => h) (Or.inl ⟨by kernel_rfl, fun w _ => by go_simp⟩) hS.out ?_
          refine wpAnyH_take (i := 3) (v := .int .i64 (Q1 : Int)) rfl (by kernel_rfl) (by kernel_rfl) (by kernel_rfl) (fun _ _ _ h => h) (Or.inl ⟨by kernel_rfl, fun w _ => by go_simp⟩) hS.out ?_
          refine wpAnyH_take (i := 6) (v := .slice (some ⟨b, o, none⟩) k c1) rfl (by kernel_rfl) (by kernel_rfl) (by kernel_rfl) (fun _ _ _ h => h) (Or.inl ⟨by kernel_rfl, fun w _ => by go_simp⟩) hS.out ?_
          refine wpAnyH_take (i := 7) (v := .int .i64 (p : Int)) rfl (by kernel_rfl) (by kernel_rfl) (by kernel_rfl) (fun _ _ _ h => h) (Or.inl ⟨by kernel_rfl, fun w _ => by go_simp⟩) hS.out ?_
          refine wpAnyH_take (i := 8) (v := .pointer (some ⟨b, o + p * 7, none⟩)) rfl (by kernel_rfl) (by kernel_rfl) (by kernel_rfl) (fun _ _ _ h => h) (Or.inl ⟨by kernel_rfl, fun w _ => by go_simp⟩) hS.out ?_
          refine wpAnyH_take (i := 12) (v := .slice (some ⟨b, o, none⟩) k c1) rfl (by kernel_rfl) (by kernel_rfl) (by kernel_rfl) (fun _ _ _ h => h) (Or.inl ⟨by kernel_rfl, fun w _ => by go_simp⟩) hS.out ?_
          refine wpAnyH_take (i := 13) (v := .int .i64 (q : Int)) rfl (by kernel_rfl) (by kernel_rfl) (by kernel_rfl) (fun _ _ _ h => h) (Or.inl ⟨by kernel_rfl, fun w _ => by go_simp⟩) hS.out ?_
          refine wpAnyH_take (i := 14) (v := .int .i64 (Q1 : Int)) rfl (by kernel_rfl) (by kernel_rfl) (by kernel_rfl) (fun _ _ _ h => h) (Or.inl ⟨by kernel_rfl, fun w _ => by go_simp⟩) hS.out ?_
          refine wpAnyH_take (i := 4) (v := .slice (some ⟨b, o, none⟩) Q1 c1) rfl (by kernel_rfl) (by kernel_rfl) (by kernel_rfl) (fun _ _ _ h => h) (Or.inl ⟨by kernel_rfl, fun w _ => by go_simp⟩) hS.out ?_
          refine wpAnyH_take (i := 15) (v := .slice (cutS (some ⟨b, o, none⟩) c1 Q1 7) (k - Q1) (c1 - Q1)) rfl (by kernel_rfl) (by kernel_rfl) (by kernel_rfl) (fun _ _ _ h => h) (Or.inl ⟨by kernel_rfl, fun w _ => by go_simp⟩) hS.out ?_
          refine wpAnyH_take (i := 9) (v := .agg #[.int .i64 e.s, .int .i64 e.q, .int .i64 e.c.kind, .int .i64 e.c.who, .slice ca.Ak e.c.key.length ca.ck, .slice ca.Av e.c.val.length ca.cv, .slice ca.Ao e.c.old.length ca.co]) rfl (by kernel_rfl) (by kernel_rfl) (by kernel_rfl) (fun _ _ _ h => h) (Or.inl ⟨by kernel_rfl, fun w h => by obtain ⟨q0, q1, q2, q3, q4, q5, q6⟩ := HCL.out w h; go_simp⟩) hS.out ?_
          refine wpAnyH_ready (rs := [0, 10]) (by kernel_rfl) (by simp) ?_
          refine AllReadyH.cons rfl (fun K hK => ?_) (AllReadyH.cons rfl (fun K hK => ?_) AllReadyH.nil)
          · go_simp
            refine hK.out _ _ (hS.out.alloc hS.out.size _) (fun _ => ?_)
            clear hK K
            obtain ⟨g0, hg0⟩ : ∃ x, wd.heap.size = x := ⟨_, rfl⟩
            have hown0 : (wd.alloc (.cells #[] 28)).ownsRow w0.heap.size 28 7 (.slice (some ⟨g0, 0, none⟩) 0 0) 0 [] := by rw [← hg0]; exact ⟨rfl, .inr ⟨_, 0, #[], rfl, hS.out.size, Blk.new _ _ _, Nat.le_refl _, by decide, rfl, rfl⟩⟩
            have hb0 : Below wd.heap.size wd (wd.alloc (.cells #[] 28)) := (Below.refl _ _).alloc (Nat.le_refl _) _
            have hS := Lib.hid (hS.out.trans (hb0.mono hS.out.size))
            rw [hg0]
            clear hg0
            generalize wd.alloc (.cells #[] 28) = w1 at hown0 hb0 hS ⊢
            clear hb0
            refine wpAnyH_ready (rs := [5, 10]) (by kernel_rfl) (by simp) ?_
            refine AllReadyH.cons rfl (fun K hK => ?_) (AllReadyH.cons rfl (fun K hK => ?_) AllReadyH.nil)
            · refine step_append_EN (W := w0) (c' := c1) cellE (.tmp 64) (.tmp 68) rfl rfl (by kernel_rfl) hown0 (by kernel_rfl) (HR1.out.below hS.out) HC1.out.oneCell (N := Q1) (by omega) (by omega) (by omega) hS.out ?_
              intro A2 c2 w2 hown1 hBn hgn
              have hwb : Below w0.heap.size w1 w2 := (Below.refl _ _).grown hgn hS.out.size (fun k hk => (hown0.lt k hk).1)
              have hS := Lib.hid hBn
              refine hK.out _ _ hS.out (fun _ => ?_)
              clear hK K hown0 hBn
              clear hwb hgn
              refine wpAnyH_ready (rs := [10]) (by kernel_rfl) (by simp) ?_
              refine AllReadyH.cons rfl (fun K hK => ?_) AllReadyH.nil
              go_simp
              refine hK.out _ _ (hS.out.alloc hS.out.size _) (fun _ => ?_)
              clear hK K
              obtain ⟨g1, hg1⟩ : ∃ x, w2.heap.size = x := ⟨_, rfl⟩
              have hent := (Rd.entAt w2 ca e 28 hg1).fit
              have hb0 : Below w2.heap.size w2 (w2.alloc (.cells #[.int .i64 e.s, .int .i64 e.q, .int .i64 e.c.kind, .int .i64 e.c.who, .slice ca.Ak e.c.key.length ca.ck, .slice ca.Av e.c.val.length ca.cv, .slice ca.Ao e.c.old.length ca.co] 28)) := (Below.refl _ _).alloc (Nat.le_refl _) _
              have hS := Lib.hid (hS.out.trans (hb0.mono hS.out.size))
              have hown1 := ownsRow_below hown1 hb0
              rw [hg1]
              clear hg1
              generalize w2.alloc (.cells #[.int .i64 e.s, .int .i64 e.q, .int .i64 e.c.kind, .int .i64 e.c.who, .slice ca.Ak e.c.key.length ca.ck, .slice ca.Av e.c.val.length ca.cv, .slice ca.Ao e.c.old.length ca.co] 28) = w3 at hent hb0 hS hown1 ⊢
              clear hb0
              refine wpAnyH_ready (rs := [11]) (by kernel_rfl) (by simp) ?_
              refine AllReadyH.cons rfl (fun K hK => ?_) AllReadyH.nil
              refine step_append_EN (W := w0) (c' := 1) cellE (.tmp 69) (.tmp 74) rfl rfl (by kernel_rfl) hown1 (by kernel_rfl) hent (entL_one _ _) (N := Q1 + 1) rfl (by omega) (by omega) hS.out ?_
              intro A3 c3 w11 hown2 hBn hgn
              have hS := Lib.hid hBn
              refine hK.out _ _ hS.out (fun _ => ?_)
              clear hK K hown1 hBn hgn hent
              refine wpAnyH_ready (rs := [16]) (by kernel_rfl) (by simp) ?_
              refine AllReadyH.cons rfl (fun K hK => ?_) AllReadyH.nil
              refine step_append_EN (W := w0) (c' := c1 - Q1) cellE (.tmp 75) (.tmp 79) rfl rfl (by kernel_rfl) hown2 (by kernel_rfl) (HR3.out.below hS.out) HC3.out.oneCell (N := k + 1) (by omega) (by omega) (by omega) hS.out ?_
              intro A4 c4 w12 hown3 hBn hgn
              have hS := Lib.hid hBn
              refine hK.out _ _ hS.out (fun _ => ?_)
              clear hK K hown2 hBn hgn
              refine wpAnyH_take (i := 17) (v := .slice A4 (k + 1) c4) rfl (by kernel_rfl) (by kernel_rfl) (by kernel_rfl) (fun _ _ _ h => h) (Or.inl ⟨by kernel_rfl, fun w _ => by go_simp⟩) hS.out ?_
              refine wpAnyH_done (by kernel_rfl) ?_ _
              have hee : e = ep := by
                have h1 := HEP.out
                rw [HEPP.out] at h1
                injection h1 with h1
                exact h1.symm
              have HEE := Lib.hid hee
              clear hee
              go_wp2_with fail
              go_meet
              refine ⟨A4, c4, rfl, Lib.hid ⟨_, Rd.ownS hown3 (by omega), ?_⟩, hS⟩
              rw [HMOR.out, ← HEE.out, List.nil_append]
              exact ((HC1.out.append (CellsE.one HRC.out)).append HC3.out).imp fun _ _ h => (h.below hS.out).fit
            · go_simp
              refine hK.out _ _ (hS.out.alloc hS.out.size _) (fun _ => ?_)
              clear hK K
              obtain ⟨g1, hg1⟩ : ∃ x, w1.heap.size = x := ⟨_, rfl⟩
              have hent := (Rd.entAt w1 ca e 28 hg1).fit
              have hb0 : Below w1.heap.size w1 (w1.alloc (.cells #[.int .i64 e.s, .int .i64 e.q, .int .i64 e.c.kind, .int .i64 e.c.who, .slice ca.Ak e.c.key.length ca.ck, .slice ca.Av e.c.val.length ca.cv, .slice ca.Ao e.c.old.length ca.co] 28)) := (Below.refl _ _).alloc (Nat.le_refl _) _
              have hS := Lib.hid (hS.out.trans (hb0.mono hS.out.size))
              have HG01 : Hid (g0 ≠ g1) := Lib.hid (by have := (hown0.lt g0 rfl).2; omega)
              have hown0 := ownsRow_below hown0 hb0
              rw [hg1]
              clear hg1
              generalize w1.alloc (.cells #[.int .i64 e.s, .int .i64 e.q, .int .i64 e.c.kind, .int .i64 e.c.who, .slice ca.Ak e.c.key.length ca.ck, .slice ca.Av e.c.val.length ca.cv, .slice ca.Ao e.c.old.length ca.co] 28) = w2 at hent hb0 hS hown0 ⊢
              clear hb0
              refine wpAnyH_ready (rs := [5]) (by kernel_rfl) (by simp) ?_
              refine AllReadyH.cons rfl (fun K hK => ?_) AllReadyH.nil
              refine step_append_EN (W := w0) (c' := c1) cellE (.tmp 64) (.tmp 68) rfl rfl (by kernel_rfl) hown0 (by kernel_rfl) (HR1.out.below hS.out) HC1.out.oneCell (N := Q1) (by omega) (by omega) (by omega) hS.out ?_
              intro A2 c2 w3 hown1 hBn hgn
              have hwb : Below w0.heap.size w2 w3 := (Below.refl _ _).grown hgn hS.out.size (fun k hk => (hown0.lt k hk).1)
              have hgb : ∀ k, (Value.slice (some ⟨g0, 0, none⟩) 0 0).ownBlock = some k → k ≠ g1 := by
                intro k hk
                have h1 : g0 = k := by simpa [Value.ownBlock] using hk
                have h2 := HG01.out
                omega
              have hent := hent.rowOther hgn hgb
              have hS := Lib.hid hBn
              refine hK.out _ _ hS.out (fun _ => ?_)
              clear hK K hown0 hBn
              clear hwb hgn
              refine wpAnyH_ready (rs := [11]) (by kernel_rfl) (by simp) ?_
              refine AllReadyH.cons rfl (fun K hK => ?_) AllReadyH.nil
              refine step_append_EN (W := w0) (c' := 1) cellE (.tmp 69) (.tmp 74) rfl rfl (by kernel_rfl) hown1 (by kernel_rfl) hent (entL_one _ _) (N := Q1 + 1) rfl (by omega) (by omega) hS.out ?_
              intro A3 c3 w11 hown2 hBn hgn
              have hS := Lib.hid hBn
              refine hK.out _ _ hS.out (fun _ => ?_)
              clear hK K hown1 hBn hgn hent
              refine wpAnyH_ready (rs := [16]) (by kernel_rfl) (by simp) ?_
              refine AllReadyH.cons rfl (fun K hK => ?_) AllReadyH.nil
              refine step_append_EN (W := w0) (c' := c1 - Q1) cellE (.tmp 75) (.tmp 79) rfl rfl (by kernel_rfl) hown2 (by kernel_rfl) (HR3.out.below hS.out) HC3.out.oneCell (N := k + 1) (by omega) (by omega) (by omega) hS.out ?_
              intro A4 c4 w12 hown3 hBn hgn
              have hS := Lib.hid hBn
              refine hK.out _ _ hS.out (fun _ => ?_)
              clear hK K hown2 hBn hgn
              refine wpAnyH_take (i := 17) (v := .slice A4 (k + 1) c4) rfl (by kernel_rfl) (by kernel_rfl) (by kernel_rfl) (fun _ _ _ h => h) (Or.inl ⟨by kernel_rfl, fun w _ => by go_simp⟩) hS.out ?_
              refine wpAnyH_done (by kernel_rfl) ?_ _
              have hee : e = ep := by
                have h1 := HEP.out
                rw [HEPP.out] at h1
                injection h1 with h1
                exact h1.symm
              have HEE := Lib.hid hee
              clear hee
              go_wp2_with fail
              go_meet
              refine ⟨A4, c4, rfl, Lib.hid ⟨_, Rd.ownS hown3 (by omega), ?_⟩, hS⟩
              rw [HMOR.out, ← HEE.out, List.nil_append]
              exact ((HC1.out.append (CellsE.one HRC.out)).append HC3.out).imp fun _ _ h => (h.below hS.out).fit
          · go_simp
            refine hK.out _ _ (hS.out.alloc hS.out.size _) (fun _ => ?_)
            clear hK K
            obtain ⟨g1, hg1⟩ : ∃ x, wd.heap.size = x := ⟨_, rfl⟩
            have hent := (Rd.entAt wd ca e 28 hg1).fit
            have hb0 : Below wd.heap.size wd (wd.alloc (.cells #[.int .i64 e.s, .int .i64 e.q, .int .i64 e.c.kind, .int .i64 e.c.who, .slice ca.Ak e.c.key.length ca.ck, .slice ca.Av e.c.val.length ca.cv, .slice ca.Ao e.c.old.length ca.co] 28)) := (Below.refl _ _).alloc (Nat.le_refl _) _
            have hS := Lib.hid (hS.out.trans (hb0.mono hS.out.size))
            rw [hg1]
            clear hg1
            generalize wd.alloc (.cells #[.int .i64 e.s, .int .i64 e.q, .int .i64 e.c.kind, .int .i64 e.c.who, .slice ca.Ak e.c.key.length ca.ck, .slice ca.Av e.c.val.length ca.cv, .slice ca.Ao e.c.old.length ca.co] 28) = w1 at hent hb0 hS ⊢
            clear hb0
            refine wpAnyH_ready (rs := [0]) (by kernel_rfl) (by simp) ?_
            refine AllReadyH.cons rfl (fun K hK => ?_) AllReadyH.nil
            go_simp
            refine hK.out _ _ (hS.out.alloc hS.out.size _) (fun _ => ?_)
            clear hK K
            obtain ⟨g0, hg0⟩ : ∃ x, w1.heap.size = x := ⟨_, rfl⟩
            have hown0 : (w1.alloc (.cells #[] 28)).ownsRow w0.heap.size 28 7 (.slice (some ⟨g0, 0, none⟩) 0 0) 0 [] := by rw [← hg0]; exact ⟨rfl, .inr ⟨_, 0, #[], rfl, hS.out.size, Blk.new _ _ _, Nat.le_refl _, by decide, rfl, rfl⟩⟩
            have hb0 : Below w1.heap.size w1 (w1.alloc (.cells #[] 28)) := (Below.refl _ _).alloc (Nat.le_refl _) _
            have hS := Lib.hid (hS.out.trans (hb0.mono hS.out.size))
            have HG01 : Hid (g0 ≠ g1) := Lib.hid (by obtain ⟨b', o', e', hb', _⟩ := hent.2 (by omega); injection e' with e'; injection e' with e1' e2'; omega)
            have hent := (hent.below hb0).fit
            rw [hg0]
            clear hg0
            generalize w1.alloc (.cells #[] 28) = w2 at hown0 hb0 hS hent ⊢
            clear hb0
            refine wpAnyH_ready (rs := [5]) (by kernel_rfl) (by simp) ?_
            refine AllReadyH.cons rfl (fun K hK => ?_) AllReadyH.nil
            refine step_append_EN (W := w0) (c' := c1) cellE (.tmp 64) (.tmp 68) rfl rfl (by kernel_rfl) hown0 (by kernel_rfl) (HR1.out.below hS.out) HC1.out.oneCell (N := Q1) (by omega) (by omega) (by omega) hS.out ?_
            intro A2 c2 w3 hown1 hBn hgn
            have hwb : Below w0.heap.size w2 w3 := (Below.refl _ _).grown hgn hS.out.size (fun k hk => (hown0.lt k hk).1)
            have hgb : ∀ k, (Value.slice (some ⟨g0, 0, none⟩) 0 0).ownBlock = some k → k ≠ g1 := by
              intro k hk
              have h1 : g0 = k := by simpa [Value.ownBlock] using hk
              have h2 := HG01.out
              omega
            have hent := hent.rowOther hgn hgb
            have hS := Lib.hid hBn
            refine hK.out _ _ hS.out (fun _ => ?_)
            clear hK K hown0 hBn
            clear hwb hgn
            refine wpAnyH_ready (rs := [11]) (by kernel_rfl) (by simp) ?_
            refine AllReadyH.cons rfl (fun K hK => ?_) AllReadyH.nil
            refine step_append_EN (W := w0) (c' := 1) cellE (.tmp 69) (.tmp 74) rfl rfl (by kernel_rfl) hown1 (by kernel_rfl) hent (entL_one _ _) (N := Q1 + 1) rfl (by omega) (by omega) hS.out ?_
            intro A3 c3 w11 hown2 hBn hgn
            have hS := Lib.hid hBn
            refine hK.out _ _ hS.out (fun _ => ?_)
            clear hK K hown1 hBn hgn hent
            refine wpAnyH_ready (rs := [16]) (by kernel_rfl) (by simp) ?_
            refine AllReadyH.cons rfl (fun K hK => ?_) AllReadyH.nil
            refine step_append_EN (W := w0) (c' := c1 - Q1) cellE (.tmp 75) (.tmp 79) rfl rfl (by kernel_rfl) hown2 (by kernel_rfl) (HR3.out.below hS.out) HC3.out.oneCell (N := k + 1) (by omega) (by omega) (by omega) hS.out ?_
            intro A4 c4 w12 hown3 hBn hgn
            have hS := Lib.hid hBn
            refine hK.out _ _ hS.out (fun _ => ?_)
            clear hK K hown2 hBn hgn
            refine wpAnyH_take (i := 17) (v := .slice A4 (k + 1) c4) rfl (by kernel_rfl) (by kernel_rfl) (by kernel_rfl) (fun _ _ _ h => h) (Or.inl ⟨by kernel_rfl, fun w _ => by go_simp⟩) hS.out ?_
            refine wpAnyH_done (by kernel_rfl) ?_ _
            have hee : e = ep := by
              have h1 := HEP.out
              rw [HEPP.out] at h1
              injection h1 with h1
              exact h1.symm
            have HEE := Lib.hid hee
            clear hee
            go_wp2_with fail
            go_meet
            refine ⟨A4, c4, rfl, Lib.hid ⟨_, Rd.ownS hown3 (by omega), ?_⟩, hS⟩
            rw [HMOR.out, ← HEE.out, List.nil_append]
            exact ((HC1.out.append (CellsE.one HRC.out)).append HC3.out).imp fun _ _ h => (h.below hS.out).fit
        case rest =>
          obtain ⟨A8, c8, rfl, HMORE, HBX⟩ := hcut
          rename World => wx
          have HALL := Lib.hid ((HALL0.out.below HBX.out).fit)
          have HBW2 := Lib.hid (HBW.out.trans (HBX.out.mono HBW.out.size))
          obtain ⟨M, hM0⟩ : ∃ M, Mc.zero.run es = M := ⟨_, rfl⟩
          have HMM := Lib.hid hM0
          have HMOK : Hid (M.Ok) := Lib.hid (by rw [← hM0]; exact Mc.Ok.zero.run HF.out)
          rw [hM0] at HAGN
          have hkl : es.length = k := HALL.out.length
          have HKL := Lib.hid hkl
          have HML := Lib.hid hml
          clear hM0 HALL0 HBX HBW HMOR HEPP hcap hw9 hqk hQk hpk hkl hml
          go_wp2_with fail
          have bx : Below wx.heap.size wx ((wx.alloc (.cells #[.slice none 0 0, .slice none 0 0, .slice none 0 0, .slice none 0 0, .slice none 0 0] 37)).alloc (.cells #[.slice none 0 0, .slice none 0 0, .slice none 0 0, .slice none 0 0, .slice none 0 0] 37)) := ((Below.refl _ _).alloc (Nat.le_refl _) _).alloc (by simp) _
          have HBX := Lib.hid bx
          have HK1 := Lib.hid ((Blk.new wx 37 #[.slice none 0 0, .slice none 0 0, .slice none 0 0, .slice none 0 0, .slice none 0 0]).alloc (.cells #[.slice none 0 0, .slice none 0 0, .slice none 0 0, .slice none 0 0, .slice none 0 0] 37))
          have HK2 := Lib.hid (Blk.new (wx.alloc (.cells #[.slice none 0 0, .slice none 0 0, .slice none 0 0, .slice none 0 0, .slice none 0 0] 37)) 37 #[.slice none 0 0, .slice none 0 0, .slice none 0 0, .slice none 0 0, .slice none 0 0])
          rw [World.size_alloc] at HK2
          obtain ⟨g1, hg1⟩ : ∃ x, wx.heap.size = x := ⟨_, rfl⟩
          have HG1 := Lib.hid hg1
          rw [hg1] at HK1 HK2
          simp only [hg1]
          generalize (wx.alloc (.cells #[.slice none 0 0, .slice none 0 0, .slice none 0 0, .slice none 0 0, .slice none 0 0] 37)).alloc (.cells #[.slice none 0 0, .slice none 0 0, .slice none 0 0, .slice none 0 0, .slice none 0 0] 37) = wy at HBX HK1 HK2 ⊢
          clear bx hg1
          go_loopw [14, 83] (fun s14 s83 wr => ∃ (j : Nat) (a : MA) (m : Mc), j ≤ k ∧ s83 = .int .i64 (j : Int) ∧ Hid (m = Mc.zero.run (es.take j)) ∧ Hid (OwnM wx wr a m) ∧ Hid (Blk wr g1 37 #[.slice a.o.A0 m.o.reg.length a.o.c0, .slice a.o.A1 m.o.q.length a.o.c1, .slice a.o.A2 m.o.lk.length a.o.c2, .slice a.o.A3 m.o.mp.length a.o.c3, .slice a.At m.t.length a.ct]) ∧ Hid (Blk wr (g1 + 1) 37 #[.slice none 0 0, .slice none 0 0, .slice none 0 0, .slice none 0 0, .slice none 0 0]) ∧ Hid (Below wx.heap.size wx wr)) (fun _ s83 _ => k - (intOf s83).toNat)
          case atStart => exact ⟨0, ⟨⟨none, 0, none, 0, none, 0, none, 0⟩, none, 0⟩, Mc.zero, Nat.zero_le _, rfl, Lib.hid rfl, Lib.hid (OwnM.zero _ _), HK1, HK2, HBX⟩
          case round =>
            clear HK1 HK2 HBX
            obtain ⟨j, a, m, hj, rfl, HR2, HOM, HK1, HK2, HBX⟩ := hrel
            by_cases hlt2 : j < k
            · obtain ⟨b, o, e, ca, rfl, he, ⟨z0, z1, z2, z3, z4, z5, z6⟩, hrc⟩ := HALL.out.at hlt2
              have y0 := cell_of HBX.out z0
              have y1 := cell_of HBX.out z1
              have y2 := cell_of HBX.out z2
              have y3 := cell_of HBX.out z3
              have y4 := cell_of HBX.out z4
              have y5 := cell_of HBX.out z5
              have y6 := cell_of HBX.out z6
              have HFE : Hid (e.c.Fits) := Lib.hid (HF.out e (List.mem_of_getElem? he))
              have HOKm : Hid (m.Ok) := Lib.hid (by rw [HR2.out]; exact Mc.Ok.zero.run (fun x hx => HF.out x (List.mem_of_mem_take hx)))
              have HEE := Lib.hid he
              have hv1 : IntKind.i64.wrap ((j : Int) + 1) = (j : Int) + 1 := IntWalk.i64_in _ (by omega)
              have hjn : (j : Int) < (k : Int) := by omega
              have b1 : Below wr.heap.size wr (wr.alloc (.cells #[.int .i64 e.s, .int .i64 e.q, .int .i64 e.c.kind, .int .i64 e.c.who, .slice ca.Ak e.c.key.length ca.ck, .slice ca.Av e.c.val.length ca.cv, .slice ca.Ao e.c.old.length ca.co] 28)) := (Below.refl _ _).alloc (Nat.le_refl _) _
              have HKE := Lib.hid (Blk.new wr 28 #[.int .i64 e.s, .int .i64 e.q, .int .i64 e.c.kind, .int .i64 e.c.who, .slice ca.Ak e.c.key.length ca.ck, .slice ca.Av e.c.val.length ca.cv, .slice ca.Ao e.c.old.length ca.co])
              have HRC := Lib.hid ((hrc.below HBX.out).below (b1.mono HBX.out.size))
              have HBX2 := Lib.hid (HBX.out.trans (b1.mono HBX.out.size))
              have HK1 := Lib.hid (HK1.out.below b1)
              have HK2 := Lib.hid (HK2.out.below b1)
              have HOM := Lib.hid (HOM.out.below b1)
              skip
              clear z0 z1 z2 z3 z4 z5 z6 hrc he b1
              go_upto_region 17 with fail
              generalize wr.alloc (.cells #[.int .i64 e.s, .int .i64 e.q, .int .i64 e.c.kind, .int .i64 e.c.who, .slice ca.Ak e.c.key.length ca.ck, .slice ca.Av e.c.val.length ca.cv, .slice ca.Ao e.c.old.length ca.co] 28) = wa at HKE HRC HBX2 HK1 HK2 HOM ⊢
              clear y0 y1 y2 y3 y4 y5 y6
              obtain ⟨x0, x1, x2, x3, x4⟩ := five HK1.out
              obtain ⟨u0, u1, u2, u3, u4, u5, u6⟩ := seven HKE.out
              obtain ⟨r, hr⟩ : ∃ r, m.step e = r := ⟨_, rfl⟩
              have HST := Lib.hid hr
              have C1 := Lib.hid (hS.is (W := wx) (w := wa) (a := a) (ca := ca) hr HOKm.out HFE.out HOM.out.rd HRC.out HBX2.out)
              clear hr
              go_upto_region 18 with (first
                | (go_at_call 10; refine C1.out.mono ?_; rintro en w2 ⟨a9, A9, c9, rfl, ho, hv, hB, hb⟩
                   unfold machV machC resV
                   clear x0 x1 x2 x3 x4 u0 u1 u2 u3 u4 u5 u6
                   have HK1 := Lib.hid (HK1.out.below hb)
                   have HK2 := Lib.hid (HK2.out.below hb)
                   have HN9 := Lib.hid ho
                   have HB9 := Lib.hid hB
                   skip
                   obtain ⟨x0, x1, x2, x3, x4⟩ := five HK1.out
                   obtain ⟨f0, f1, f2, f3, f4⟩ := five_frozen HK1.out
                   clear ho hv hB hb C1)
                | fail)
              obtain ⟨p1, p2, p3, _, p5⟩ := put5 HK1.out (.slice a9.o.A0 r.m.o.reg.length a9.o.c0) (.slice a9.o.A1 r.m.o.q.length a9.o.c1) (.slice a9.o.A2 r.m.o.lk.length a9.o.c2) (.slice a9.o.A3 r.m.o.mp.length a9.o.c3) (.slice a9.At r.m.t.length a9.ct)
              have HP := Lib.hid (And.intro p1 (And.intro (p2 wx (by have := HG1.out; omega) HB9.out) (And.intro (p3 wx a9 r.m HN9.out (by decide) (by decide) (by decide) (by decide) (by decide)) (p5 (g1 + 1) _ _ (by omega) HK2.out))))
              skip
              clear p1 p2 p3 p5
              have HRN : Hid (r.m = Mc.zero.run (es.take (j + 1))) := Lib.hid (by rw [take_snoc HEE.out, Mc.run_snoc, ← HR2.out, HST.out])
              go_wp2_with fail
              go_roundw
              case rel => exact ⟨j + 1, a9, r.m, by omega, by go_num, HRN, Lib.hid HP.out.2.2.1, Lib.hid HP.out.1, Lib.hid HP.out.2.2.2, Lib.hid HP.out.2.1⟩
              case measure => simp only [intOf]; omega
            · have hmM : m = M := by rw [HR2.out, ← HMM.out, List.take_of_length_le (by have := HKL.out; omega)]
              rw [hmM] at HOM HK1
              clear hmM HR2
              rename World => wv
              have hj0 : ¬ (j : Int) < (k : Int) := by omega
              go_wp2_with fail
              go_loopw [16, 96] (fun s16 s96 wr => ∃ (i : Nat) (a2 : MA) (m2 : Mc), i ≤ k + 1 ∧ s96 = .int .i64 (i : Int) ∧ Hid (m2 = Mc.zero.run (more.take i)) ∧ Hid (OwnM wx wr a2 m2) ∧ Hid (OwnM wx wr a M) ∧ Hid (Blk wr g1 37 #[.slice a.o.A0 M.o.reg.length a.o.c0, .slice a.o.A1 M.o.q.length a.o.c1, .slice a.o.A2 M.o.lk.length a.o.c2, .slice a.o.A3 M.o.mp.length a.o.c3, .slice a.At M.t.length a.ct]) ∧ Hid (Blk wr (g1 + 1) 37 #[.slice a2.o.A0 m2.o.reg.length a2.o.c0, .slice a2.o.A1 m2.o.q.length a2.o.c1, .slice a2.o.A2 m2.o.lk.length a2.o.c2, .slice a2.o.A3 m2.o.mp.length a2.o.c3, .slice a2.At m2.t.length a2.ct]) ∧ Hid (Below wx.heap.size wx wr)) (fun _ s96 _ => k + 1 - (intOf s96).toNat)
              case atStart => exact ⟨0, ⟨⟨none, 0, none, 0, none, 0, none, 0⟩, none, 0⟩, Mc.zero, Nat.zero_le _, rfl, Lib.hid rfl, Lib.hid (OwnM.zero _ _), HOM, HK1, HK2, HBX⟩
              case round =>
                clear HK1 HK2 HBX HOM
                obtain ⟨i, a2, m2, hi, rfl, HR3, HOM2, HOM, HK1, HK2, HBX⟩ := hrel
                by_cases hlt3 : i < k + 1
                · obtain ⟨b, o, e, ca, rfl, he, ⟨z0, z1, z2, z3, z4, z5, z6⟩, hrc⟩ := HMORE.out.at hlt3
                  have y0 := cell_of HBX.out z0
                  have y1 := cell_of HBX.out z1
                  have y2 := cell_of HBX.out z2
                  have y3 := cell_of HBX.out z3
                  have y4 := cell_of HBX.out z4
                  have y5 := cell_of HBX.out z5
                  have y6 := cell_of HBX.out z6
                  have HFE : Hid (e.c.Fits) := Lib.hid (HFM.out e (List.mem_of_getElem? he))
                  have HOKm : Hid (m2.Ok) := Lib.hid (by rw [HR3.out]; exact Mc.Ok.zero.run (fun x hx => HFM.out x (List.mem_of_mem_take hx)))
                  have HEE := Lib.hid he
                  have hv1 : IntKind.i64.wrap ((i : Int) + 1) = (i : Int) + 1 := IntWalk.i64_in _ (by omega)
                  have hjn : (i : Int) < (k : Int) + 1 := by omega
                  have b1 : Below wr.heap.size wr (wr.alloc (.cells #[.int .i64 e.s, .int .i64 e.q, .int .i64 e.c.kind, .int .i64 e.c.who, .slice ca.Ak e.c.key.length ca.ck, .slice ca.Av e.c.val.length ca.cv, .slice ca.Ao e.c.old.length ca.co] 28)) := (Below.refl _ _).alloc (Nat.le_refl _) _
                  have HKE := Lib.hid (Blk.new wr 28 #[.int .i64 e.s, .int .i64 e.q, .int .i64 e.c.kind, .int .i64 e.c.who, .slice ca.Ak e.c.key.length ca.ck, .slice ca.Av e.c.val.length ca.cv, .slice ca.Ao e.c.old.length ca.co])
                  have HRC := Lib.hid ((hrc.below HBX.out).below (b1.mono HBX.out.size))
                  have HBX2 := Lib.hid (HBX.out.trans (b1.mono HBX.out.size))
                  have HK1 := Lib.hid (HK1.out.below b1)
                  have HK2 := Lib.hid (HK2.out.below b1)
                  have HOM := Lib.hid (HOM.out.below b1)
                  have HOM2 := Lib.hid (HOM2.out.below b1)
                  clear z0 z1 z2 z3 z4 z5 z6 hrc he b1
                  go_upto_region 22 with fail
                  generalize wr.alloc (.cells #[.int .i64 e.s, .int .i64 e.q, .int .i64 e.c.kind, .int .i64 e.c.who, .slice ca.Ak e.c.key.length ca.ck, .slice ca.Av e.c.val.length ca.cv, .slice ca.Ao e.c.old.length ca.co] 28) = wa at HKE HRC HBX2 HK1 HK2 HOM HOM2 ⊢
                  clear y0 y1 y2 y3 y4 y5 y6
                  obtain ⟨x0, x1, x2, x3, x4⟩ := five HK2.out
                  obtain ⟨u0, u1, u2, u3, u4, u5, u6⟩ := seven HKE.out
                  obtain ⟨r, hr⟩ : ∃ r, m2.step e = r := ⟨_, rfl⟩
                  have HST := Lib.hid hr
                  have C1 := Lib.hid (hS.is (W := wx) (w := wa) (a := a2) (ca := ca) hr HOKm.out HFE.out HOM2.out.rd HRC.out HBX2.out)
                  clear hr
                  go_upto_region 23 with (first
                    | (go_at_call 10; refine C1.out.mono ?_; rintro en w2 ⟨a9, A9, c9, rfl, ho, hv, hB, hb⟩
                       unfold machV machC resV
                       clear x0 x1 x2 x3 x4 u0 u1 u2 u3 u4 u5 u6
                       have HK1 := Lib.hid (HK1.out.below hb)
                       have HK2 := Lib.hid (HK2.out.below hb)
                       have HN9 := Lib.hid ho
                       have HB9 := Lib.hid hB
                       have HOMX := Lib.hid (HOM.out.below hb)
                       obtain ⟨x0, x1, x2, x3, x4⟩ := five HK2.out
                       obtain ⟨f0, f1, f2, f3, f4⟩ := five_frozen HK2.out
                       clear ho hv hB hb C1)
                    | fail)
                  obtain ⟨p1, p2, p3, _, p5⟩ := put5 HK2.out (.slice a9.o.A0 r.m.o.reg.length a9.o.c0) (.slice a9.o.A1 r.m.o.q.length a9.o.c1) (.slice a9.o.A2 r.m.o.lk.length a9.o.c2) (.slice a9.o.A3 r.m.o.mp.length a9.o.c3) (.slice a9.At r.m.t.length a9.ct)
                  have HP := Lib.hid (And.intro p1 (And.intro (p2 wx (by have := HG1.out; omega) HB9.out) (And.intro (p3 wx a9 r.m HN9.out (by decide) (by decide) (by decide) (by decide) (by decide)) (p5 (g1) _ _ (by omega) HK1.out))))
                  have HOMY := Lib.hid (put5 HK2.out (.slice a9.o.A0 r.m.o.reg.length a9.o.c0) (.slice a9.o.A1 r.m.o.q.length a9.o.c1) (.slice a9.o.A2 r.m.o.lk.length a9.o.c2) (.slice a9.o.A3 r.m.o.mp.length a9.o.c3) (.slice a9.At r.m.t.length a9.ct)).2.2.1
                  clear p1 p2 p3 p5
                  have HRN : Hid (r.m = Mc.zero.run (more.take (i + 1))) := Lib.hid (by rw [take_snoc HEE.out, Mc.run_snoc, ← HR3.out, HST.out])
                  go_wp2_with fail
                  go_roundw
                  case rel => exact ⟨i + 1, a9, r.m, by omega, by go_num, HRN, Lib.hid HP.out.2.2.1, Lib.hid (HOMY.out wx a M HOMX.out (by decide) (by decide) (by decide) (by decide) (by decide)), Lib.hid HP.out.2.2.2, Lib.hid HP.out.1, Lib.hid HP.out.2.1⟩
                  case measure => simp only [intOf]; omega
                · have hmM : m2 = M := by rw [HR3.out, ← HAGN.out, List.take_of_length_le (by have := HML.out; omega)]
                  rw [hmM] at HOM2 HK2
                  clear hmM HR3
                  have hi0 : ¬ (i : Int) < (k : Int) + 1 := by omega
                  have CS := Lib.hid (hM.is wr (b := true) (decide_eq_true rfl) HMOK.out HMOK.out HOM.out.rd HOM2.out.rd)
                  have CO : Hid (∀ wy, Below wr.heap.size wr wy → Calls Tryz.prog 12 #[objV a.o M.o, objV a2.o M.o] wy fun e w' => e = .returned (.bool true) ∧ Below wy.heap.size wy w') := Lib.hid (fun wy hb => by
                    have := sameO_any wy HMOK.out.o HMOK.out.o (HOM.out.rd.o.below hb) (HOM2.out.rd.o.below hb)
                    rwa [Ob.same_self] at this)
                  obtain ⟨x0, x1, x2, x3, x4⟩ := five HK1.out
                  obtain ⟨u0, u1, u2, u3, u4⟩ := five HK2.out
                  unfold machV machC at CS
                  unfold objV objC at CO
                  go_wp2_with (first
                    | (go_at_call 11; refine CS.out.mono ?_; rintro en w3 ⟨rfl, hb3⟩; have HB3 := Lib.hid hb3; clear hb3 x0 x1 x2 x3 x4 u0 u1 u2 u3 u4; obtain ⟨x0, x1, x2, x3, x4⟩ := five (HK1.out.below HB3.out); obtain ⟨u0, u1, u2, u3, u4⟩ := five (HK2.out.below HB3.out))
                    | (go_at_call 12; refine (CO.out _ HB3.out).mono ?_; rintro en w4 ⟨rfl, hb4⟩; have HB4 := Lib.hid (HB3.out.trans (hb4.mono HB3.out.size)); clear hb4)
                    | (go_at_call 9; refine (hA _).mono ?_; rintro en w5 ⟨rfl, hb5⟩; have HB5 := Lib.hid (HB4.out.trans (hb5.mono HB4.out.size)); clear hb5)
                    | fail)
                  go_ret
                  have h1 := HBX.out.trans (HB5.out.mono HBX.out.size)
                  exact ⟨rfl, HBW2.out.trans (h1.mono HBW2.out.size)⟩
      · have hki : ¬ (k : Int) < (n : Int) := by omega
        by_cases h0 : k = 0
        · obtain rfl : es = [] := List.eq_nil_of_length_eq_zero (by omega)
          subst h0
          go_wp2_with (first
            | (go_at_call 9; refine (hA _).mono ?_; rintro en w5 ⟨rfl, hb5⟩; have HB5 := Lib.hid hb5; clear hb5)
            | fail)
          go_ret
          exact ⟨rfl, HB.out.trans (HB5.out.mono HB.out.size)⟩
        · have hcap : k ≤ c1 := HO.out.cap
          have HALL0 := Lib.hid HO.out.rd
          have hk0 : ¬ (k : Int) = 0 := by omega
          have hkb : ((k : Int) == 0) = false := by simpa using hk0
          obtain ⟨p, hp, hpk⟩ : ∃ p : Nat, (bits .and .i64 at_ 255).tmod (k : Int) = (p : Int) ∧ p < k := by
            rw [and_255]
            have h1 := Int.emod_nonneg at_ (show (256 : Int) ≠ 0 by omega)
            rw [Int.tmod_eq_emod_of_nonneg h1]
            have h2 := Int.emod_nonneg (at_ % 256) (show (k : Int) ≠ 0 by omega)
            have h3 := Int.emod_lt_of_pos (at_ % 256) (show (0 : Int) < (k : Int) by omega)
            exact ⟨((at_ % 256) % (k : Int)).toNat, by omega, by omega⟩
          have hkp0 : ¬ (k : Int) - (p : Int) = 0 := by omega
          have hkpb : ((k : Int) - (p : Int) == 0) = false := by simpa using hkp0
          obtain ⟨d, hd, hdk⟩ : ∃ d : Nat, (bits .and .i64 to_ 255).tmod ((k : Int) - (p : Int)) = (d : Int) ∧ d < k - p := by
            rw [and_255]
            have h1 := Int.emod_nonneg to_ (show (256 : Int) ≠ 0 by omega)
            rw [Int.tmod_eq_emod_of_nonneg h1]
            have h2 := Int.emod_nonneg (to_ % 256) (show (k : Int) - (p : Int) ≠ 0 by omega)
            have h3 := Int.emod_lt_of_pos (to_ % 256) (show (0 : Int) < (k : Int) - (p : Int) by omega)
            exact ⟨((to_ % 256) % ((k : Int) - (p : Int))).toNat, by omega, by omega⟩
          have hw5 : IntKind.i64.wrap (p : Int) = (p : Int) := IntWalk.i64_in _ (by omega)
          have hw6 : IntKind.i64.wrap ((k : Int) - (p : Int)) = (k : Int) - (p : Int) := IntWalk.i64_in _ (by omega)
          have hw7 : IntKind.i64.wrap (d : Int) = (d : Int) := IntWalk.i64_in _ (by omega)
          obtain ⟨q, hq⟩ : ∃ q, p + d = q := ⟨_, rfl⟩
          have hw8 : IntKind.i64.wrap ((p : Int) + (d : Int)) = (q : Int) := by rw [show (p : Int) + (d : Int) = (q : Int) by omega]; exact IntWalk.i64_in _ (by omega)
          obtain ⟨Q1, hQ1⟩ : ∃ q1, q + 1 = q1 := ⟨_, rfl⟩
          have hw9 : IntKind.i64.wrap ((q : Int) + 1) = (Q1 : Int) := by rw [show (q : Int) + 1 = (Q1 : Int) by omega]; exact IntWalk.i64_in _ (by omega)
          have hqk : q < k := by omega
          have hQk : Q1 ≤ k := by omega
          obtain ⟨ep, hep⟩ : ∃ e, es[p]? = some e := ⟨_, List.getElem?_eq_getElem (by omega)⟩
          obtain ⟨more, hmore⟩ : ∃ x, es.take Q1 ++ [ep] ++ es.drop Q1 = x := ⟨_, rfl⟩
          have HEPP := Lib.hid hep
          have HMOR := Lib.hid hmore.symm
          have HAGN : Hid (Mc.zero.run more = Mc.zero.run es) := Lib.hid (by rw [← hmore, ← hQ1]; exact Mc.run_again Mc.Ok.zero HF.out (by omega) hep)
          have HFM : Hid (∀ e ∈ more, e.c.Fits) := Lib.hid (by
            rw [← hmore]
            intro e he
            rcases List.mem_append.1 he with h1 | h1
            · rcases List.mem_append.1 h1 with h2 | h2
              · exact HF.out e (List.mem_of_mem_take h2)
              · simp only [List.mem_cons, List.not_mem_nil, or_false] at h2
                subst h2
                exact HF.out _ (List.mem_of_getElem? hep)
            · exact HF.out e (List.mem_of_mem_drop h1))
          have hml : more.length = k + 1 := by rw [← hmore, List.length_append, List.length_append, List.length_take, List.length_drop, List.length_singleton]; omega
          have HBW := Lib.hid HB.out
          clear hep hmore hq HN0 HO HB
          rename World => w0
          go_upto_region 12 with fail
          clear hd hp hw5 hw6 hw7 hw8 hkp0 hkpb hdk
          go_cut [8] from 64 to 80 (fun s8 wy => ∃ (A8 : Option Addr) (c8 : Nat), s8 = .slice A8 (k + 1) c8 ∧ Hid (RdE wy wy.heap.size A8 (k + 1) more) ∧ Hid (Below w0.heap.size w0 wy))
          case first =>
            obtain ⟨i0, hi0, hi1, hi2, hi3⟩ := info_parts cellE.info
            obtain ⟨vs, hv1, hv2⟩ := HALL0.out
            have hcl := hv2.len
            obtain ⟨b, o, e, ca, rfl, he, ⟨z0, z1, z2, z3, z4, z5, z6⟩, hrc⟩ := HALL0.out.at hpk
            have hsl := fun w => run_slice_to (P := Tryz.prog) Tryz.underlying23 hi0 (some ⟨b, o, none⟩) k c1 Q1 (by omega) w
            have hsf := fun w => run_slice_fromS_ (P := Tryz.prog) Tryz.underlying23 hi0 hi2 (some ⟨b, o, none⟩) k c1 Q1 (by omega) w
            have HR1 := Lib.hid (hv1.take (Nat.mul_le_mul_right 7 (show Q1 ≤ k by omega)))
            have HR3 := Lib.hid (hv1.dropS (k := Q1) (by omega) hcap)
            have HC1 := Lib.hid (hv2.take Q1)
            have HC3 := Lib.hid (hv2.drop Q1)
            have HRC := Lib.hid hrc
            have HEP := Lib.hid he
            have HCL : Hid (∀ wy, Below w0.heap.size w0 wy → (wy.cell? ⟨b, o + p * 7, none⟩ = some (.int .i64 e.s) ∧ wy.cell? ⟨b, o + p * 7 + 1, none⟩ = some (.int .i64 e.q) ∧ wy.cell? ⟨b, o + p * 7 + 2, none⟩ = some (.int .i64 e.c.kind) ∧ wy.cell? ⟨b, o + p * 7 + 3, none⟩ = some (.int .i64 e.c.who) ∧ wy.cell? ⟨b, o + p * 7 + 4, none⟩ = some (.slice ca.Ak e.c.key.length ca.ck) ∧ wy.cell? ⟨b, o + p * 7 + 5, none⟩ = some (.slice ca.Av e.c.val.length ca.cv) ∧ wy.cell? ⟨b, o + p * 7 + 6, none⟩ = some (.slice ca.Ao e.c.old.length ca.co))) :=
              Lib.hid (fun wy hb => ⟨cell_of hb z0, cell_of hb z1, cell_of hb z2, cell_of hb z3, cell_of hb z4, cell_of hb z5, cell_of hb z6⟩)
            clear hv1 hv2 hcl hrc z0 z1 z2 z3 z4 z5 z6 hi0 hi1 hi2 hi3
            have hS0 : Below w0.heap.size w0 w0.drew := (Below.refl _ _).drew
            refine wp_region_held_drew (S := fun w' => Below w0.heap.size w0 w') (by kernel_rfl) hS0 (fun _ => ?_)
            have hS := Lib.hid hS0
            clear hS0
            generalize w0.drew = wd at hS ⊢
            refine wpAnyH_take (i := 1) (v := .slice (some ⟨b, o, none⟩) k c1) rfl (by kernel_rfl) (by kernel_rfl) (by kernel_rfl) (fun _ _ _ h => h) (Or.inl ⟨by kernel_rfl, fun w _ => by go_simp⟩) hS.out ?_
            refine wpAnyH_take (i := 2) (v := .int .i64 (q : Int)) rfl (by kernel_rfl) (by kernel_rfl) (by kernel_rfl) (fun _ _ _ h => h) (Or.inl ⟨by kernel_rfl, fun w _ => by go_simp⟩) hS.out ?_
            refine wpAnyH_take (i := 3) (v := .int .i64 (Q1 : Int)) rfl (by kernel_rfl) (by kernel_rfl) (by kernel_rfl) (fun _ _ _ h => h) (Or.inl ⟨by kernel_rfl, fun w _ => by go_simp⟩) hS.out ?_
            refine wpAnyH_take (i := 6) (v := .slice (some ⟨b, o, none⟩) k c1) rfl (by kernel_rfl) (by kernel_rfl) (by kernel_rfl) (fun _ _ _ h => h) (Or.inl ⟨by kernel_rfl, fun w _ => by go_simp⟩) hS.out ?_
            refine wpAnyH_take (i := 7) (v := .int .i64 (p : Int)) rfl (by kernel_rfl) (by kernel_rfl) (by kernel_rfl) (fun _ _ _ h => h) (Or.inl ⟨by kernel_rfl, fun w _ => by go_simp⟩) hS.out ?_
            refine wpAnyH_take (i := 8) (v := .pointer (some ⟨b, o + p * 7, none⟩)) rfl (by kernel_rfl) (by kernel_rfl) (by kernel_rfl) (fun _ _ _ h => h) (Or.inl ⟨by kernel_rfl, fun w _ => by go_simp⟩) hS.out ?_
            refine wpAnyH_take (i := 12) (v := .slice (some ⟨b, o, none⟩) k c1) rfl (by kernel_rfl) (by kernel_rfl) (by kernel_rfl) (fun _ _ _ h => h) (Or.inl ⟨by kernel_rfl, fun w _ => by go_simp⟩) hS.out ?_
            refine wpAnyH_take (i := 13) (v := .int .i64 (q : Int)) rfl (by kernel_rfl) (by kernel_rfl) (by kernel_rfl) (fun _ _ _ h => h) (Or.inl ⟨by kernel_rfl, fun w _ => by go_simp⟩) hS.out ?_
            refine wpAnyH_take (i := 14) (v := .int .i64 (Q1 : Int)) rfl (by kernel_rfl) (by kernel_rfl) (by kernel_rfl) (fun _ _ _ h => h) (Or.inl ⟨by kernel_rfl, fun w _ => by go_simp⟩) hS.out ?_
            refine wpAnyH_take (i := 4) (v := .slice (some ⟨b, o, none⟩) Q1 c1) rfl (by kernel_rfl) (by kernel_rfl) (by kernel_rfl) (fun _ _ _ h => h) (Or.inl ⟨by kernel_rfl, fun w _ => by go_simp⟩) hS.out ?_
            refine wpAnyH_take (i := 15) (v := .slice (cutS (some ⟨b, o, none⟩) c1 Q1 7) (k - Q1) (c1 - Q1)) rfl (by kernel_rfl) (by kernel_rfl) (by kernel_rfl) (fun _ _ _ h => h) (Or.inl ⟨by kernel_rfl, fun w _ => by go_simp⟩) hS.out ?_
            refine wpAnyH_take (i := 9) (v := .agg #[.int .i64 e.s, .int .i64 e.q, .int .i64 e.c.kind, .int .i64 e.c.who, .slice ca.Ak e.c.key.length ca.ck, .slice ca.Av e.c.val.length ca.cv, .slice ca.Ao e.c.old.length ca.co]) rfl (by kernel_rfl) (by kernel_rfl) (by kernel_rfl) (fun _ _ _ h => h) (Or.inl ⟨by kernel_rfl, fun w h => by obtain ⟨q0, q1, q2, q3, q4, q5, q6⟩ := HCL.out w h; go_simp⟩) hS.out ?_
            refine wpAnyH_ready (rs := [0, 10]) (by kernel_rfl) (by simp) ?_
            refine AllReadyH.cons rfl (fun K hK => ?_) (AllReadyH.cons rfl (fun K hK => ?_) AllReadyH.nil)
            · go_simp
              refine hK.out _ _ (hS.out.alloc hS.out.size _) (fun _ => ?_)
              clear hK K
              obtain ⟨g0, hg0⟩ : ∃ x, wd.heap.size = x := ⟨_, rfl⟩
              have hown0 : (wd.alloc (.cells #[] 28)).ownsRow w0.heap.size 28 7 (.slice (some ⟨g0, 0, none⟩) 0 0) 0 [] := by rw [← hg0]; exact ⟨rfl, .inr ⟨_, 0, #[], rfl, hS.out.size, Blk.new _ _ _, Nat.le_refl _, by decide, rfl, rfl⟩⟩
              have hb0 : Below wd.heap.size wd (wd.alloc (.cells #[] 28)) := (Below.refl _ _).alloc (Nat.le_refl _) _
              have hS := Lib.hid (hS.out.trans (hb0.mono hS.out.size))
              rw [hg0]
              clear hg0
              generalize wd.alloc (.cells #[] 28) = w1 at hown0 hb0 hS ⊢
              clear hb0
              refine wpAnyH_ready (rs := [5, 10]) (by kernel_rfl) (by simp) ?_
              refine AllReadyH.cons rfl (fun K hK => ?_) (AllReadyH.cons rfl (fun K hK => ?_) AllReadyH.nil)
              · refine step_append_EN (W := w0) (c' := c1) cellE (.tmp 64) (.tmp 68) rfl rfl (by kernel_rfl) hown0 (by kernel_rfl) (HR1.out.below hS.out) HC1.out.oneCell (N := Q1) (by omega) (by omega) (by omega) hS.out ?_
                intro A2 c2 w2 hown1 hBn hgn
                have hwb : Below w0.heap.size w1 w2 := (Below.refl _ _).grown hgn hS.out.size (fun k hk => (hown0.lt k hk).1)
                have hS := Lib.hid hBn
                refine hK.out _ _ hS.out (fun _ => ?_)
                clear hK K hown0 hBn
                clear hwb hgn
                refine wpAnyH_ready (rs := [10]) (by kernel_rfl) (by simp) ?_
                refine AllReadyH.cons rfl (fun K hK => ?_) AllReadyH.nil
                go_simp
                refine hK.out _ _ (hS.out.alloc hS.out.size _) (fun _ => ?_)
                clear hK K
                obtain ⟨g1, hg1⟩ : ∃ x, w2.heap.size = x := ⟨_, rfl⟩
                have hent := (Rd.entAt w2 ca e 28 hg1).fit
                have hb0 : Below w2.heap.size w2 (w2.alloc (.cells #[.int .i64 e.s, .int .i64 e.q, .int .i64 e.c.kind, .int .i64 e.c.who, .slice ca.Ak e.c.key.length ca.ck, .slice ca.Av e.c.val.length ca.cv, .slice ca.Ao e.c.old.length ca.co] 28)) := (Below.refl _ _).alloc (Nat.le_refl _) _
                have hS := Lib.hid (hS.out.trans (hb0.mono hS.out.size))
                have hown1 := ownsRow_below hown1 hb0
                rw [hg1]
                clear hg1
                generalize w2.alloc (.cells #[.int .i64 e.s, .int .i64 e.q, .int .i64 e.c.kind, .int .i64 e.c.who, .slice ca.Ak e.c.key.length ca.ck, .slice ca.Av e.c.val.length ca.cv, .slice ca.Ao e.c.old.length ca.co] 28) = w3 at hent hb0 hS hown1 ⊢
                clear hb0
                refine wpAnyH_ready (rs := [11]) (by kernel_rfl) (by simp) ?_
                refine AllReadyH.cons rfl (fun K hK => ?_) AllReadyH.nil
                refine step_append_EN (W := w0) (c' := 1) cellE (.tmp 69) (.tmp 74) rfl rfl (by kernel_rfl) hown1 (by kernel_rfl) hent (entL_one _ _) (N := Q1 + 1) rfl (by omega) (by omega) hS.out ?_
                intro A3 c3 w11 hown2 hBn hgn
                have hS := Lib.hid hBn
                refine hK.out _ _ hS.out (fun _ => ?_)
                clear hK K hown1 hBn hgn hent
                refine wpAnyH_ready (rs := [16]) (by kernel_rfl) (by simp) ?_
                refine AllReadyH.cons rfl (fun K hK => ?_) AllReadyH.nil
                refine step_append_EN (W := w0) (c' := c1 - Q1) cellE (.tmp 75) (.tmp 79) rfl rfl (by kernel_rfl) hown2 (by kernel_rfl) (HR3.out.below hS.out) HC3.out.oneCell (N := k + 1) (by omega) (by omega) (by omega) hS.out ?_
                intro A4 c4 w12 hown3 hBn hgn
                have hS := Lib.hid hBn
                refine hK.out _ _ hS.out (fun _ => ?_)
                clear hK K hown2 hBn hgn
                refine wpAnyH_take (i := 17) (v := .slice A4 (k + 1) c4) rfl (by kernel_rfl) (by kernel_rfl) (by kernel_rfl) (fun _ _ _ h => h) (Or.inl ⟨by kernel_rfl, fun w _ => by go_simp⟩) hS.out ?_
                refine wpAnyH_done (by kernel_rfl) ?_ _
                have hee : e = ep := by
                  have h1 := HEP.out
                  rw [HEPP.out] at h1
                  injection h1 with h1
                  exact h1.symm
                have HEE := Lib.hid hee
                clear hee
                go_wp2_with fail
                go_meet
                refine ⟨A4, c4, rfl, Lib.hid ⟨_, Rd.ownS hown3 (by omega), ?_⟩, hS⟩
                rw [HMOR.out, ← HEE.out, List.nil_append]
                exact ((HC1.out.append (CellsE.one HRC.out)).append HC3.out).imp fun _ _ h => (h.below hS.out).fit
              · go_simp
                refine hK.out _ _ (hS.out.alloc hS.out.size _) (fun _ => ?_)
                clear hK K
                obtain ⟨g1, hg1⟩ : ∃ x, w1.heap.size = x := ⟨_, rfl⟩
                have hent := (Rd.entAt w1 ca e 28 hg1).fit
                have hb0 : Below w1.heap.size w1 (w1.alloc (.cells #[.int .i64 e.s, .int .i64 e.q, .int .i64 e.c.kind, .int .i64 e.c.who, .slice ca.Ak e.c.key.length ca.ck, .slice ca.Av e.c.val.length ca.cv, .slice ca.Ao e.c.old.length ca.co] 28)) := (Below.refl _ _).alloc (Nat.le_refl _) _
                have hS := Lib.hid (hS.out.trans (hb0.mono hS.out.size))
                have HG01 : Hid (g0 ≠ g1) := Lib.hid (by have := (hown0.lt g0 rfl).2; omega)
                have hown0 := ownsRow_below hown0 hb0
                rw [hg1]
                clear hg1
                generalize w1.alloc (.cells #[.int .i64 e.s, .int .i64 e.q, .int .i64 e.c.kind, .int .i64 e.c.who, .slice ca.Ak e.c.key.length ca.ck, .slice ca.Av e.c.val.length ca.cv, .slice ca.Ao e.c.old.length ca.co] 28) = w2 at hent hb0 hS hown0 ⊢
                clear hb0
                refine wpAnyH_ready (rs := [5]) (by kernel_rfl) (by simp) ?_
                refine AllReadyH.cons rfl (fun K hK => ?_) AllReadyH.nil
                refine step_append_EN (W := w0) (c' := c1) cellE (.tmp 64) (.tmp 68) rfl rfl (by kernel_rfl) hown0 (by kernel_rfl) (HR1.out.below hS.out) HC1.out.oneCell (N := Q1) (by omega) (by omega) (by omega) hS.out ?_
                intro A2 c2 w3 hown1 hBn hgn
                have hwb : Below w0.heap.size w2 w3 := (Below.refl _ _).grown hgn hS.out.size (fun k hk => (hown0.lt k hk).1)
                have hgb : ∀ k, (Value.slice (some ⟨g0, 0, none⟩) 0 0).ownBlock = some k → k ≠ g1 := by
                  intro k hk
                  have h1 : g0 = k := by simpa [Value.ownBlock] using hk
                  have h2 := HG01.out
                  omega
                have hent := hent.rowOther hgn hgb
                have hS := Lib.hid hBn
                refine hK.out _ _ hS.out (fun _ => ?_)
                clear hK K hown0 hBn
                clear hwb hgn
                refine wpAnyH_ready (rs := [11]) (by kernel_rfl) (by simp) ?_
                refine AllReadyH.cons rfl (fun K hK => ?_) AllReadyH.nil
                refine step_append_EN (W := w0) (c' := 1) cellE (.tmp 69) (.tmp 74) rfl rfl (by kernel_rfl) hown1 (by kernel_rfl) hent (entL_one _ _) (N := Q1 + 1) rfl (by omega) (by omega) hS.out ?_
                intro A3 c3 w11 hown2 hBn hgn
                have hS := Lib.hid hBn
                refine hK.out _ _ hS.out (fun _ => ?_)
                clear hK K hown1 hBn hgn hent
                refine wpAnyH_ready (rs := [16]) (by kernel_rfl) (by simp) ?_
                refine AllReadyH.cons rfl (fun K hK => ?_) AllReadyH.nil
                refine step_append_EN (W := w0) (c' := c1 - Q1) cellE (.tmp 75) (.tmp 79) rfl rfl (by kernel_rfl) hown2 (by kernel_rfl) (HR3.out.below hS.out) HC3.out.oneCell (N := k + 1) (by omega) (by omega) (by omega) hS.out ?_
                intro A4 c4 w12 hown3 hBn hgn
                have hS := Lib.hid hBn
                refine hK.out _ _ hS.out (fun _ => ?_)
                clear hK K hown2 hBn hgn
                refine wpAnyH_take (i := 17) (v := .slice A4 (k + 1) c4) rfl (by kernel_rfl) (by kernel_rfl) (by kernel_rfl) (fun _ _ _ h => h) (Or.inl ⟨by kernel_rfl, fun w _ => by go_simp⟩) hS.out ?_
                refine wpAnyH_done (by kernel_rfl) ?_ _
                have hee : e = ep := by
                  have h1 := HEP.out
                  rw [HEPP.out] at h1
                  injection h1 with h1
                  exact h1.symm
                have HEE := Lib.hid hee
                clear hee
                go_wp2_with fail
                go_meet
                refine ⟨A4, c4, rfl, Lib.hid ⟨_, Rd.ownS hown3 (by omega), ?_⟩, hS⟩
                rw [HMOR.out, ← HEE.out, List.nil_append]
                exact ((HC1.out.append (CellsE.one HRC.out)).append HC3.out).imp fun _ _ h => (h.below hS.out).fit
            · go_simp
              refine hK.out _ _ (hS.out.alloc hS.out.size _) (fun _ => ?_)
              clear hK K
              obtain ⟨g1, hg1⟩ : ∃ x, wd.heap.size = x := ⟨_, rfl⟩
              have hent := (Rd.entAt wd ca e 28 hg1).fit
              have hb0 : Below wd.heap.size wd (wd.alloc (.cells #[.int .i64 e.s, .int .i64 e.q, .int .i64 e.c.kind, .int .i64 e.c.who, .slice ca.Ak e.c.key.length ca.ck, .slice ca.Av e.c.val.length ca.cv, .slice ca.Ao e.c.old.length ca.co] 28)) := (Below.refl _ _).alloc (Nat.le_refl _) _
              have hS := Lib.hid (hS.out.trans (hb0.mono hS.out.size))
              rw [hg1]
              clear hg1
              generalize wd.alloc (.cells #[.int .i64 e.s, .int .i64 e.q, .int .i64 e.c.kind, .int .i64 e.c.who, .slice ca.Ak e.c.key.length ca.ck, .slice ca.Av e.c.val.length ca.cv, .slice ca.Ao e.c.old.length ca.co] 28) = w1 at hent hb0 hS ⊢
              clear hb0
              refine wpAnyH_ready (rs := [0]) (by kernel_rfl) (by simp) ?_
              refine AllReadyH.cons rfl (fun K hK => ?_) AllReadyH.nil
              go_simp
              refine hK.out _ _ (hS.out.alloc hS.out.size _) (fun _ => ?_)
              clear hK K
              obtain ⟨g0, hg0⟩ : ∃ x, w1.heap.size = x := ⟨_, rfl⟩
              have hown0 : (w1.alloc (.cells #[] 28)).ownsRow w0.heap.size 28 7 (.slice (some ⟨g0, 0, none⟩) 0 0) 0 [] := by rw [← hg0]; exact ⟨rfl, .inr ⟨_, 0, #[], rfl, hS.out.size, Blk.new _ _ _, Nat.le_refl _, by decide, rfl, rfl⟩⟩
              have hb0 : Below w1.heap.size w1 (w1.alloc (.cells #[] 28)) := (Below.refl _ _).alloc (Nat.le_refl _) _
              have hS := Lib.hid (hS.out.trans (hb0.mono hS.out.size))
              have HG01 : Hid (g0 ≠ g1) := Lib.hid (by obtain ⟨b', o', e', hb', _⟩ := hent.2 (by omega); injection e' with e'; injection e' with e1' e2'; omega)
              have hent := (hent.below hb0).fit
              rw [hg0]
              clear hg0
              generalize w1.alloc (.cells #[] 28) = w2 at hown0 hb0 hS hent ⊢
              clear hb0
              refine wpAnyH_ready (rs := [5]) (by kernel_rfl) (by simp) ?_
              refine AllReadyH.cons rfl (fun K hK => ?_) AllReadyH.nil
              refine step_append_EN (W := w0) (c' := c1) cellE (.tmp 64) (.tmp 68) rfl rfl (by kernel_rfl) hown0 (by kernel_rfl) (HR1.out.below hS.out) HC1.out.oneCell (N := Q1) (by omega) (by omega) (by omega) hS.out ?_
              intro A2 c2 w3 hown1 hBn hgn
              have hwb : Below w0.heap.size w2 w3 := (Below.refl _ _).grown hgn hS.out.size (fun k hk => (hown0.lt k hk).1)
              have hgb : ∀ k, (Value.slice (some ⟨g0, 0, none⟩) 0 0).ownBlock = some k → k ≠ g1 := by
                intro k hk
                have h1 : g0 = k := by simpa [Value.ownBlock] using hk
                have h2 := HG01.out
                omega
              have hent := hent.rowOther hgn hgb
              have hS := Lib.hid hBn
              refine hK.out _ _ hS.out (fun _ => ?_)
              clear hK K hown0 hBn
              clear hwb hgn
              refine wpAnyH_ready (rs := [11]) (by kernel_rfl) (by simp) ?_
              refine AllReadyH.cons rfl (fun K hK => ?_) AllReadyH.nil
              refine step_append_EN (W := w0) (c' := 1) cellE (.tmp 69) (.tmp 74) rfl rfl (by kernel_rfl) hown1 (by kernel_rfl) hent (entL_one _ _) (N := Q1 + 1) rfl (by omega) (by omega) hS.out ?_
              intro A3 c3 w11 hown2 hBn hgn
              have hS := Lib.hid hBn
              refine hK.out _ _ hS.out (fun _ => ?_)
              clear hK K hown1 hBn hgn hent
              refine wpAnyH_ready (rs := [16]) (by kernel_rfl) (by simp) ?_
              refine AllReadyH.cons rfl (fun K hK => ?_) AllReadyH.nil
              refine step_append_EN (W := w0) (c' := c1 - Q1) cellE (.tmp 75) (.tmp 79) rfl rfl (by kernel_rfl) hown2 (by kernel_rfl) (HR3.out.below hS.out) HC3.out.oneCell (N := k + 1) (by omega) (by omega) (by omega) hS.out ?_
              intro A4 c4 w12 hown3 hBn hgn
              have hS := Lib.hid hBn
              refine hK.out _ _ hS.out (fun _ => ?_)
              clear hK K hown2 hBn hgn
              refine wpAnyH_take (i := 17) (v := .slice A4 (k + 1) c4) rfl (by kernel_rfl) (by kernel_rfl) (by kernel_rfl) (fun _ _ _ h => h) (Or.inl ⟨by kernel_rfl, fun w _ => by go_simp⟩) hS.out ?_
              refine wpAnyH_done (by kernel_rfl) ?_ _
              have hee : e = ep := by
                have h1 := HEP.out
                rw [HEPP.out] at h1
                injection h1 with h1
                exact h1.symm
              have HEE := Lib.hid hee
              clear hee
              go_wp2_with fail
              go_meet
              refine ⟨A4, c4, rfl, Lib.hid ⟨_, Rd.ownS hown3 (by omega), ?_⟩, hS⟩
              rw [HMOR.out, ← HEE.out, List.nil_append]
              exact ((HC1.out.append (CellsE.one HRC.out)).append HC3.out).imp fun _ _ h => (h.below hS.out).fit
          case rest =>
            obtain ⟨A8, c8, rfl, HMORE, HBX⟩ := hcut
            rename World => wx
            have HALL := Lib.hid ((HALL0.out.below HBX.out).fit)
            have HBW2 := Lib.hid (HBW.out.trans (HBX.out.mono HBW.out.size))
            obtain ⟨M, hM0⟩ : ∃ M, Mc.zero.run es = M := ⟨_, rfl⟩
            have HMM := Lib.hid hM0
            have HMOK : Hid (M.Ok) := Lib.hid (by rw [← hM0]; exact Mc.Ok.zero.run HF.out)
            rw [hM0] at HAGN
            have hkl : es.length = k := HALL.out.length
            have HKL := Lib.hid hkl
            have HML := Lib.hid hml
            clear hM0 HALL0 HBX HBW HMOR HEPP hcap hw9 hqk hQk hpk hkl hml
            go_wp2_with fail
            have bx : Below wx.heap.size wx ((wx.alloc (.cells #[.slice none 0 0, .slice none 0 0, .slice none 0 0, .slice none 0 0, .slice none 0 0] 37)).alloc (.cells #[.slice none 0 0, .slice none 0 0, .slice none 0 0, .slice none 0 0, .slice none 0 0] 37)) := ((Below.refl _ _).alloc (Nat.le_refl _) _).alloc (by simp) _
            have HBX := Lib.hid bx
            have HK1 := Lib.hid ((Blk.new wx 37 #[.slice none 0 0, .slice none 0 0, .slice none 0 0, .slice none 0 0, .slice none 0 0]).alloc (.cells #[.slice none 0 0, .slice none 0 0, .slice none 0 0, .slice none 0 0, .slice none 0 0] 37))
            have HK2 := Lib.hid (Blk.new (wx.alloc (.cells #[.slice none 0 0, .slice none 0 0, .slice none 0 0, .slice none 0 0, .slice none 0 0] 37)) 37 #[.slice none 0 0, .slice none 0 0, .slice none 0 0, .slice none 0 0, .slice none 0 0])
            rw [World.size_alloc] at HK2
            obtain ⟨g1, hg1⟩ : ∃ x, wx.heap.size = x := ⟨_, rfl⟩
            have HG1 := Lib.hid hg1
            rw [hg1] at HK1 HK2
            simp only [hg1]
            generalize (wx.alloc (.cells #[.slice none 0 0, .slice none 0 0, .slice none 0 0, .slice none 0 0, .slice none 0 0] 37)).alloc (.cells #[.slice none 0 0, .slice none 0 0, .slice none 0 0, .slice none 0 0, .slice none 0 0] 37) = wy at HBX HK1 HK2 ⊢
            clear bx hg1
            go_loopw [14, 83] (fun s14 s83 wr => ∃ (j : Nat) (a : MA) (m : Mc), j ≤ k ∧ s83 = .int .i64 (j : Int) ∧ Hid (m = Mc.zero.run (es.take j)) ∧ Hid (OwnM wx wr a m) ∧ Hid (Blk wr g1 37 #[.slice a.o.A0 m.o.reg.length a.o.c0, .slice a.o.A1 m.o.q.length a.o.c1, .slice a.o.A2 m.o.lk.length a.o.c2, .slice a.o.A3 m.o.mp.length a.o.c3, .slice a.At m.t.length a.ct]) ∧ Hid (Blk wr (g1 + 1) 37 #[.slice none 0 0, .slice none 0 0, .slice none 0 0, .slice none 0 0, .slice none 0 0]) ∧ Hid (Below wx.heap.size wx wr)) (fun _ s83 _ => k - (intOf s83).toNat)
            case atStart => exact ⟨0, ⟨⟨none, 0, none, 0, none, 0, none, 0⟩, none, 0⟩, Mc.zero, Nat.zero_le _, rfl, Lib.hid rfl, Lib.hid (OwnM.zero _ _), HK1, HK2, HBX⟩
            case round =>
              clear HK1 HK2 HBX
              obtain ⟨j, a, m, hj, rfl, HR2, HOM, HK1, HK2, HBX⟩ := hrel
              by_cases hlt2 : j < k
              · obtain ⟨b, o, e, ca, rfl, he, ⟨z0, z1, z2, z3, z4, z5, z6⟩, hrc⟩ := HALL.out.at hlt2
                have y0 := cell_of HBX.out z0
                have y1 := cell_of HBX.out z1
                have y2 := cell_of HBX.out z2
                have y3 := cell_of HBX.out z3
                have y4 := cell_of HBX.out z4
                have y5 := cell_of HBX.out z5
                have y6 := cell_of HBX.out z6
                have HFE : Hid (e.c.Fits) := Lib.hid (HF.out e (List.mem_of_getElem? he))
                have HOKm : Hid (m.Ok) := Lib.hid (by rw [HR2.out]; exact Mc.Ok.zero.run (fun x hx => HF.out x (List.mem_of_mem_take hx)))
                have HEE := Lib.hid he
                have hv1 : IntKind.i64.wrap ((j : Int) + 1) = (j : Int) + 1 := IntWalk.i64_in _ (by omega)
                have hjn : (j : Int) < (k : Int) := by omega
                have b1 : Below wr.heap.size wr (wr.alloc (.cells #[.int .i64 e.s, .int .i64 e.q, .int .i64 e.c.kind, .int .i64 e.c.who, .slice ca.Ak e.c.key.length ca.ck, .slice ca.Av e.c.val.length ca.cv, .slice ca.Ao e.c.old.length ca.co] 28)) := (Below.refl _ _).alloc (Nat.le_refl _) _
                have HKE := Lib.hid (Blk.new wr 28 #[.int .i64 e.s, .int .i64 e.q, .int .i64 e.c.kind, .int .i64 e.c.who, .slice ca.Ak e.c.key.length ca.ck, .slice ca.Av e.c.val.length ca.cv, .slice ca.Ao e.c.old.length ca.co])
                have HRC := Lib.hid ((hrc.below HBX.out).below (b1.mono HBX.out.size))
                have HBX2 := Lib.hid (HBX.out.trans (b1.mono HBX.out.size))
                have HK1 := Lib.hid (HK1.out.below b1)
                have HK2 := Lib.hid (HK2.out.below b1)
                have HOM := Lib.hid (HOM.out.below b1)
                skip
                clear z0 z1 z2 z3 z4 z5 z6 hrc he b1
                go_upto_region 17 with fail
                generalize wr.alloc (.cells #[.int .i64 e.s, .int .i64 e.q, .int .i64 e.c.kind, .int .i64 e.c.who, .slice ca.Ak e.c.key.length ca.ck, .slice ca.Av e.c.val.length ca.cv, .slice ca.Ao e.c.old.length ca.co] 28) = wa at HKE HRC HBX2 HK1 HK2 HOM ⊢
                clear y0 y1 y2 y3 y4 y5 y6
                obtain ⟨x0, x1, x2, x3, x4⟩ := five HK1.out
                obtain ⟨u0, u1, u2, u3, u4, u5, u6⟩ := seven HKE.out
                obtain ⟨r, hr⟩ : ∃ r, m.step e = r := ⟨_, rfl⟩
                have HST := Lib.hid hr
                have C1 := Lib.hid (hS.is (W := wx) (w := wa) (a := a) (ca := ca) hr HOKm.out HFE.out HOM.out.rd HRC.out HBX2.out)
                clear hr
                go_upto_region 18 with (first
                  | (go_at_call 10; refine C1.out.mono ?_; rintro en w2 ⟨a9, A9, c9, rfl, ho, hv, hB, hb⟩
                     unfold machV machC resV
                     clear x0 x1 x2 x3 x4 u0 u1 u2 u3 u4 u5 u6
                     have HK1 := Lib.hid (HK1.out.below hb)
                     have HK2 := Lib.hid (HK2.out.below hb)
                     have HN9 := Lib.hid ho
                     have HB9 := Lib.hid hB
                     skip
                     obtain ⟨x0, x1, x2, x3, x4⟩ := five HK1.out
                     obtain ⟨f0, f1, f2, f3, f4⟩ := five_frozen HK1.out
                     clear ho hv hB hb C1)
                  | fail)
                obtain ⟨p1, p2, p3, _, p5⟩ := put5 HK1.out (.slice a9.o.A0 r.m.o.reg.length a9.o.c0) (.slice a9.o.A1 r.m.o.q.length a9.o.c1) (.slice a9.o.A2 r.m.o.lk.length a9.o.c2) (.slice a9.o.A3 r.m.o.mp.length a9.o.c3) (.slice a9.At r.m.t.length a9.ct)
                have HP := Lib.hid (And.intro p1 (And.intro (p2 wx (by have := HG1.out; omega) HB9.out) (And.intro (p3 wx a9 r.m HN9.out (by decide) (by decide) (by decide) (by decide) (by decide)) (p5 (g1 + 1) _ _ (by omega) HK2.out))))
                skip
                clear p1 p2 p3 p5
                have HRN : Hid (r.m = Mc.zero.run (es.take (j + 1))) := Lib.hid (by rw [take_snoc HEE.out, Mc.run_snoc, ← HR2.out, HST.out])
                go_wp2_with fail
                go_roundw
                case rel => exact ⟨j + 1, a9, r.m, by omega, by go_num, HRN, Lib.hid HP.out.2.2.1, Lib.hid HP.out.1, Lib.hid HP.out.2.2.2, Lib.hid HP.out.2.1⟩
                case measure => simp only [intOf]; omega
              · have hmM : m = M := by rw [HR2.out, ← HMM.out, List.take_of_length_le (by have := HKL.out; omega)]
                rw [hmM] at HOM HK1
                clear hmM HR2
                rename World => wv
                have hj0 : ¬ (j : Int) < (k : Int) := by omega
                go_wp2_with fail
                go_loopw [16, 96] (fun s16 s96 wr => ∃ (i : Nat) (a2 : MA) (m2 : Mc), i ≤ k + 1 ∧ s96 = .int .i64 (i : Int) ∧ Hid (m2 = Mc.zero.run (more.take i)) ∧ Hid (OwnM wx wr a2 m2) ∧ Hid (OwnM wx wr a M) ∧ Hid (Blk wr g1 37 #[.slice a.o.A0 M.o.reg.length a.o.c0, .slice a.o.A1 M.o.q.length a.o.c1, .slice a.o.A2 M.o.lk.length a.o.c2, .slice a.o.A3 M.o.mp.length a.o.c3, .slice a.At M.t.length a.ct]) ∧ Hid (Blk wr (g1 + 1) 37 #[.slice a2.o.A0 m2.o.reg.length a2.o.c0, .slice a2.o.A1 m2.o.q.length a2.o.c1, .slice a2.o.A2 m2.o.lk.length a2.o.c2, .slice a2.o.A3 m2.o.mp.length a2.o.c3, .slice a2.At m2.t.length a2.ct]) ∧ Hid (Below wx.heap.size wx wr)) (fun _ s96 _ => k + 1 - (intOf s96).toNat)
                case atStart => exact ⟨0, ⟨⟨none, 0, none, 0, none, 0, none, 0⟩, none, 0⟩, Mc.zero, Nat.zero_le _, rfl, Lib.hid rfl, Lib.hid (OwnM.zero _ _), HOM, HK1, HK2, HBX⟩
                case round =>
                  clear HK1 HK2 HBX HOM
                  obtain ⟨i, a2, m2, hi, rfl, HR3, HOM2, HOM, HK1, HK2, HBX⟩ := hrel
                  by_cases hlt3 : i < k + 1
                  · obtain ⟨b, o, e, ca, rfl, he, ⟨z0, z1, z2, z3, z4, z5, z6⟩, hrc⟩ := HMORE.out.at hlt3
                    have y0 := cell_of HBX.out z0
                    have y1 := cell_of HBX.out z1
                    have y2 := cell_of HBX.out z2
                    have y3 := cell_of HBX.out z3
                    have y4 := cell_of HBX.out z4
                    have y5 := cell_of HBX.out z5
                    have y6 := cell_of HBX.out z6
                    have HFE : Hid (e.c.Fits) := Lib.hid (HFM.out e (List.mem_of_getElem? he))
                    have HOKm : Hid (m2.Ok) := Lib.hid (by rw [HR3.out]; exact Mc.Ok.zero.run (fun x hx => HFM.out x (List.mem_of_mem_take hx)))
                    have HEE := Lib.hid he
                    have hv1 : IntKind.i64.wrap ((i : Int) + 1) = (i : Int) + 1 := IntWalk.i64_in _ (by omega)
                    have hjn : (i : Int) < (k : Int) + 1 := by omega
                    have b1 : Below wr.heap.size wr (wr.alloc (.cells #[.int .i64 e.s, .int .i64 e.q, .int .i64 e.c.kind, .int .i64 e.c.who, .slice ca.Ak e.c.key.length ca.ck, .slice ca.Av e.c.val.length ca.cv, .slice ca.Ao e.c.old.length ca.co] 28)) := (Below.refl _ _).alloc (Nat.le_refl _) _
                    have HKE := Lib.hid (Blk.new wr 28 #[.int .i64 e.s, .int .i64 e.q, .int .i64 e.c.kind, .int .i64 e.c.who, .slice ca.Ak e.c.key.length ca.ck, .slice ca.Av e.c.val.length ca.cv, .slice ca.Ao e.c.old.length ca.co])
                    have HRC := Lib.hid ((hrc.below HBX.out).below (b1.mono HBX.out.size))
                    have HBX2 := Lib.hid (HBX.out.trans (b1.mono HBX.out.size))
                    have HK1 := Lib.hid (HK1.out.below b1)
                    have HK2 := Lib.hid (HK2.out.below b1)
                    have HOM := Lib.hid (HOM.out.below b1)
                    have HOM2 := Lib.hid (HOM2.out.below b1)
                    clear z0 z1 z2 z3 z4 z5 z6 hrc he b1
                    go_upto_region 22 with fail
                    generalize wr.alloc (.cells #[.int .i64 e.s, .int .i64 e.q, .int .i64 e.c.kind, .int .i64 e.c.who, .slice ca.Ak e.c.key.length ca.ck, .slice ca.Av e.c.val.length ca.cv, .slice ca.Ao e.c.old.length ca.co] 28) = wa at HKE HRC HBX2 HK1 HK2 HOM HOM2 ⊢
                    clear y0 y1 y2 y3 y4 y5 y6
                    obtain ⟨x0, x1, x2, x3, x4⟩ := five HK2.out
                    obtain ⟨u0, u1, u2, u3, u4, u5, u6⟩ := seven HKE.out
                    obtain ⟨r, hr⟩ : ∃ r, m2.step e = r := ⟨_, rfl⟩
                    have HST := Lib.hid hr
                    have C1 := Lib.hid (hS.is (W := wx) (w := wa) (a := a2) (ca := ca) hr HOKm.out HFE.out HOM2.out.rd HRC.out HBX2.out)
                    clear hr
                    go_upto_region 23 with (first
                      | (go_at_call 10; refine C1.out.mono ?_; rintro en w2 ⟨a9, A9, c9, rfl, ho, hv, hB, hb⟩
                         unfold machV machC resV
                         clear x0 x1 x2 x3 x4 u0 u1 u2 u3 u4 u5 u6
                         have HK1 := Lib.hid (HK1.out.below hb)
                         have HK2 := Lib.hid (HK2.out.below hb)
                         have HN9 := Lib.hid ho
                         have HB9 := Lib.hid hB
                         have HOMX := Lib.hid (HOM.out.below hb)
                         obtain ⟨x0, x1, x2, x3, x4⟩ := five HK2.out
                         obtain ⟨f0, f1, f2, f3, f4⟩ := five_frozen HK2.out
                         clear ho hv hB hb C1)
                      | fail)
                    obtain ⟨p1, p2, p3, _, p5⟩ := put5 HK2.out (.slice a9.o.A0 r.m.o.reg.length a9.o.c0) (.slice a9.o.A1 r.m.o.q.length a9.o.c1) (.slice a9.o.A2 r.m.o.lk.length a9.o.c2) (.slice a9.o.A3 r.m.o.mp.length a9.o.c3) (.slice a9.At r.m.t.length a9.ct)
                    have HP := Lib.hid (And.intro p1 (And.intro (p2 wx (by have := HG1.out; omega) HB9.out) (And.intro (p3 wx a9 r.m HN9.out (by decide) (by decide) (by decide) (by decide) (by decide)) (p5 (g1) _ _ (by omega) HK1.out))))
                    have HOMY := Lib.hid (put5 HK2.out (.slice a9.o.A0 r.m.o.reg.length a9.o.c0) (.slice a9.o.A1 r.m.o.q.length a9.o.c1) (.slice a9.o.A2 r.m.o.lk.length a9.o.c2) (.slice a9.o.A3 r.m.o.mp.length a9.o.c3) (.slice a9.At r.m.t.length a9.ct)).2.2.1
                    clear p1 p2 p3 p5
                    have HRN : Hid (r.m = Mc.zero.run (more.take (i + 1))) := Lib.hid (by rw [take_snoc HEE.out, Mc.run_snoc, ← HR3.out, HST.out])
                    go_wp2_with fail
                    go_roundw
                    case rel => exact ⟨i + 1, a9, r.m, by omega, by go_num, HRN, Lib.hid HP.out.2.2.1, Lib.hid (HOMY.out wx a M HOMX.out (by decide) (by decide) (by decide) (by decide) (by decide)), Lib.hid HP.out.2.2.2, Lib.hid HP.out.1, Lib.hid HP.out.2.1⟩
                    case measure => simp only [intOf]; omega
                  · have hmM : m2 = M := by rw [HR3.out, ← HAGN.out, List.take_of_length_le (by have := HML.out; omega)]
                    rw [hmM] at HOM2 HK2
                    clear hmM HR3
                    have hi0 : ¬ (i : Int) < (k : Int) + 1 := by omega
                    have CS := Lib.hid (hM.is wr (b := true) (decide_eq_true rfl) HMOK.out HMOK.out HOM.out.rd HOM2.out.rd)
                    have CO : Hid (∀ wy, Below wr.heap.size wr wy → Calls Tryz.prog 12 #[objV a.o M.o, objV a2.o M.o] wy fun e w' => e = .returned (.bool true) ∧ Below wy.heap.size wy w') := Lib.hid (fun wy hb => by
                      have := sameO_any wy HMOK.out.o HMOK.out.o (HOM.out.rd.o.below hb) (HOM2.out.rd.o.below hb)
                      rwa [Ob.same_self] at this)
                    obtain ⟨x0, x1, x2, x3, x4⟩ := five HK1.out
                    obtain ⟨u0, u1, u2, u3, u4⟩ := five HK2.out
                    unfold machV machC at CS
                    unfold objV objC at CO
                    go_wp2_with (first
                      | (go_at_call 11; refine CS.out.mono ?_; rintro en w3 ⟨rfl, hb3⟩; have HB3 := Lib.hid hb3; clear hb3 x0 x1 x2 x3 x4 u0 u1 u2 u3 u4; obtain ⟨x0, x1, x2, x3, x4⟩ := five (HK1.out.below HB3.out); obtain ⟨u0, u1, u2, u3, u4⟩ := five (HK2.out.below HB3.out))
                      | (go_at_call 12; refine (CO.out _ HB3.out).mono ?_; rintro en w4 ⟨rfl, hb4⟩; have HB4 := Lib.hid (HB3.out.trans (hb4.mono HB3.out.size)); clear hb4)
                      | (go_at_call 9; refine (hA _).mono ?_; rintro en w5 ⟨rfl, hb5⟩; have HB5 := Lib.hid (HB4.out.trans (hb5.mono HB4.out.size)); clear hb5)
                      | fail)
                    go_ret
                    have h1 := HBX.out.trans (HB5.out.mono HBX.out.size)
                    exact ⟨rfl, HBW2.out.trans (h1.mono HBW2.out.size)⟩
end Go.Proofs.YthfnnieklkaefaaGreat

