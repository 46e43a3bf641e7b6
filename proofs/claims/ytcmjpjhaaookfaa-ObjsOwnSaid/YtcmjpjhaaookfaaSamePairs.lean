/- hocketref4.SamePairs of any two maps: are they alike? -/
import Derived.Test.YtcmjpjhaaookfaaMapsRef2
namespace Go.Proofs.Ytcmjpjhaaookfaa
open Go.RowKit
set_option linter.unusedVariables false
set_option maxRecDepth 100000 in
set_option maxHeartbeats 2000000 in
theorem samePs_any (w : World) {A A' : Option Addr} {n c n' c' B B' : Nat} {ps ps' : List Pr} (hn : n ≤ 100000) (hn' : n' ≤ 100000) (hb : BytesP ps) (hb' : BytesP ps') (h : RdP w B A n ps) (h' : RdP w B' A' n' ps') :
    Calls Try.prog 23 #[.slice A n c, .slice A' n' c'] w fun e w' => e = .returned (.bool (decide (ps = ps'))) ∧ ∃ m, w' = w.drewN m := by
  have hl : ps.length = n := h.length
  have hl' : ps'.length = n' := h'.length
  by_cases hne : n = n'
  · subst hne
    have HL := Lib.hid hl
    have HL' := Lib.hid hl'
    have H := Lib.hid h.fit
    have H' := Lib.hid h'.fit
    have HB := Lib.hid hb
    have HB' := Lib.hid hb'
    clear h h' hl hl' hb hb'
    go_enter Try.func23, Try.ntmps23
    go_wp2
    go_loopw [5] (fun i wr => ∃ j : Nat, j ≤ n ∧ i = .int .i64 j ∧ Hid (∀ i, i < j → ps[i]? = ps'[i]?) ∧ ∃ m, wr = w.drewN m) (fun i _ => n - (intOf i).toNat)
    case atStart => exact ⟨0, Nat.zero_le _, rfl, Lib.hid (fun i hi => absurd hi (by omega)), 0, rfl⟩
    case round =>
      obtain ⟨j, hj, rfl, HS, m, hm⟩ := hrel
      have HM := Lib.hid hm
      by_cases hlt : j < n
      · obtain ⟨b, o, p, A1, c1, A2, c2, rfl, hp, hcell1, hcell2, hrd1, hrd2⟩ := H.out.at hlt
        obtain ⟨b', o', p', A3, c3, A4, c4, rfl, hp', hcell3, hcell4, hrd3, hrd4⟩ := H'.out.at hlt
        have q1 : wr.cell? ⟨b, o + j * 2, none⟩ = some (.slice A1 p.1.length c1) := by rw [hm]; exact hcell1
        have q2 : wr.cell? ⟨b, o + j * 2 + 1, none⟩ = some (.slice A2 p.2.length c2) := by rw [hm]; exact hcell2
        have q3 : wr.cell? ⟨b', o' + j * 2, none⟩ = some (.slice A3 p'.1.length c3) := by rw [hm]; exact hcell3
        have q4 : wr.cell? ⟨b', o' + j * 2 + 1, none⟩ = some (.slice A4 p'.2.length c4) := by rw [hm]; exact hcell4
        have hv : IntKind.i64.wrap ((j : Int) + 1) = (j : Int) + 1 := IntWalk.i64_in _ (by omega)
        have s1 : ∀ q, (convert 22 9 (.slice A1 p.1.length c1)).run Try.prog (wr.drewN q) = .ok (.string (strB p.1)) (wr.drewN q) := fun q => by rw [hm]; exact str_of (c := c1) ((hrd1.drewN m).drewN q)
        have s2 : ∀ q, (convert 22 9 (.slice A2 p.2.length c2)).run Try.prog (wr.drewN q) = .ok (.string (strB p.2)) (wr.drewN q) := fun q => by rw [hm]; exact str_of (c := c2) ((hrd2.drewN m).drewN q)
        have s3 : ∀ q, (convert 22 9 (.slice A3 p'.1.length c3)).run Try.prog (wr.drewN q) = .ok (.string (strB p'.1)) (wr.drewN q) := fun q => by rw [hm]; exact str_of (c := c3) ((hrd3.drewN m).drewN q)
        have s4 : ∀ q, (convert 22 9 (.slice A4 p'.2.length c4)).run Try.prog (wr.drewN q) = .ok (.string (strB p'.2)) (wr.drewN q) := fun q => by rw [hm]; exact str_of (c := c4) ((hrd4.drewN m).drewN q)
        have t1 := strL_eq (HB.out p (List.mem_of_getElem? hp)).1 (HB'.out p' (List.mem_of_getElem? hp')).1
        have t2 := strL_eq (HB.out p (List.mem_of_getElem? hp)).2 (HB'.out p' (List.mem_of_getElem? hp')).2
        have HP := Lib.hid hp
        have HP' := Lib.hid hp'
        clear hp hp' hcell1 hcell2 hcell3 hcell4 hrd1 hrd2 hrd3 hrd4 hm
        have HNE : Hid (p ≠ p' → decide (ps = ps') = false) := Lib.hid (fun hne => by
          rw [decide_eq_false_iff_not]
          rintro rfl
          have h1 := HP.out
          rw [HP'.out] at h1
          injection h1 with h1
          exact hne h1.symm)
        by_cases he1 : p.1 = p'.1
        · rw [decide_eq_true he1] at t1
          by_cases he2 : p.2 = p'.2
          · rw [decide_eq_true he2] at t2
            have HE := Lib.hid (show p = p' from Prod.ext he1 he2)
            clear he1 he2
            go_wp2
            go_quiet (fail)
            go_wp2
            go_roundw
            case rel =>
              refine ⟨j + 1, by omega, by go_num, Lib.hid (fun i hi => ?_), m + nq, by rw [HM.out, World.drewN_drewN]⟩
              rcases Nat.lt_or_ge i j with h1 | h1
              · exact HS.out i h1
              · obtain rfl : i = j := by omega
                rw [HP.out, HP'.out, HE.out]
            case measure => simp [intOf]; omega
          · rw [decide_eq_false he2] at t2
            have HE := Lib.hid (HNE.out (fun e => he2 (by rw [e])))
            clear he1 he2
            go_wp2
            go_quiet (fail)
            go_wp2
            go_ret
            exact ⟨ret_bool HE.out.symm, m + nq, by rw [HM.out, World.drewN_drewN]⟩
        · rw [decide_eq_false he1] at t1
          have HE := Lib.hid (HNE.out (fun e => he1 (by rw [e])))
          clear he1
          go_wp2
          go_quiet (fail)
          go_wp2
          go_ret
          exact ⟨ret_bool HE.out.symm, m + nq, by rw [HM.out, World.drewN_drewN]⟩
      · have HE := Lib.hid (show decide (ps = ps') = true by
          rw [decide_eq_true_iff]
          apply List.ext_getElem?
          intro i
          rcases Nat.lt_or_ge i n with h1 | h1
          · exact HS.out i (by omega)
          · rw [List.getElem?_eq_none (by have := HL.out; omega), List.getElem?_eq_none (by have := HL'.out; omega)])
        clear hm
        go_wp2
        go_ret
        exact ⟨ret_bool HE.out.symm, m, HM.out⟩
  · have HE := Lib.hid (show decide (ps = ps') = false by rw [decide_eq_false_iff_not]; rintro rfl; omega)
    have hd : ((n : Int) == (n' : Int)) = false := by simp; omega
    have hd2 : ((n : Int) != (n' : Int)) = true := by simp; omega
    clear h h' hl hl' hne
    go_enter Try.func23, Try.ntmps23
    go_wp2
    go_ret
    exact ⟨ret_bool HE.out.symm, 0, rfl⟩
theorem samePs_below (w : World) {A A' : Option Addr} {n c n' c' B B' : Nat} {ps ps' : List Pr} (hn : n ≤ 100000) (hn' : n' ≤ 100000) (hb : BytesP ps) (hb' : BytesP ps') (h : RdP w B A n ps) (h' : RdP w B' A' n' ps') :
    Calls Try.prog 23 #[.slice A n c, .slice A' n' c'] w fun e w' => e = .returned (.bool (decide (ps = ps'))) ∧ Below w.heap.size w w' :=
  (samePs_any w hn hn' hb hb' h h').mono fun e w' ⟨h1, m, h2⟩ => ⟨h1, by rw [h2]; exact belowN_d m⟩
end Go.Proofs.Ytcmjpjhaaookfaa
