/- SamePairs ObjSame -/
import Derived.Test.YtaknfmionkkdjaaGreatFO03
import Derived.Test.YtaknfmionkkdjaaGreatFO10
import Derived.Test.YtaknfmionkkdjaaGreatFO11
import Derived.Test.YtaknfmionkkdjaaGreatFO23
namespace Go.Proofs.YtaknfmionkkdjaaGreat
open Go.RowKit
set_option linter.unusedVariables false
set_option maxRecDepth 100000 in
set_option maxHeartbeats 2000000 in
theorem samePs_any (w : World) {A A' : Option Addr} {n c n' c' B B' : Nat} {ps ps' : List Pr} (hn : n ≤ 100000) (hn' : n' ≤ 100000) (hb : BytesP ps) (hb' : BytesP ps') (h : RdP w B A n ps) (h' : RdP w B' A' n' ps') :
    Calls Tryz.prog 60 #[.slice A n c, .slice A' n' c'] w fun e w' => e = .returned (.bool (decide (ps = ps'))) ∧ ∃ m, w' = w.drewN m := by
  have hl : ps.length = n := h.length
  have hl' : ps'.length = n' := h'.length
  by_cases hne : n = n'
  · subst hne
    have HL := Lib.hid hl
    have HL' := Lib.hid hl'
    have H := Lib.hid h.fit
    have H' := Lib.hid h'.fit
    have HB := Lib.hid hb
    have HB' := Lib.hid hb'
    clear h h' hl hl' hb hb'
    go_enter Tryz.func60, Tryz.ntmps60
    go_wp2
    go_loopw [5] (fun i wr => ∃ j : Nat, j ≤ n ∧ i = .int .i64 j ∧ Hid (∀ i, i < j → ps[i]? = ps'[i]?) ∧ ∃ m, wr = w.drewN m) (fun i _ => n - (intOf i).toNat)
    case atStart => exact ⟨0, Nat.zero_le _, rfl, Lib.hid (fun i hi => absurd hi (by omega)), 0, rfl⟩
    case round =>
      obtain ⟨j, hj, rfl, HS, m, hm⟩ := hrel
      have HM := Lib.hid hm
      by_cases hlt : j < n
      · obtain ⟨b, o, p, A1, c1, A2, c2, rfl, hp, hcell1, hcell2, hrd1, hrd2⟩ := H.out.at hlt
        obtain ⟨b', o', p', A3, c3, A4, c4, rfl, hp', hcell3, hcell4, hrd3, hrd4⟩ := H'.out.at hlt
        have q1 : wr.cell? ⟨b, o + j * 2, none⟩ = some (.slice A1 p.1.length c1) := by rw [hm]; exact hcell1
        have q2 : wr.cell? ⟨b, o + j * 2 + 1, none⟩ = some (.slice A2 p.2.length c2) := by rw [hm]; exact hcell2
        have q3 : wr.cell? ⟨b', o' + j * 2, none⟩ = some (.slice A3 p'.1.length c3) := by rw [hm]; exact hcell3
        have q4 : wr.cell? ⟨b', o' + j * 2 + 1, none⟩ = some (.slice A4 p'.2.length c4) := by rw [hm]; exact hcell4
        have hv : IntKind.i64.wrap ((j : Int) + 1) = (j : Int) + 1 := IntWalk.i64_in _ (by omega)
        have s1 : ∀ q, (convert 26 9 (.slice A1 p.1.length c1)).run Tryz.prog (wr.drewN q) = .ok (.string (strB p.1)) (wr.drewN q) := fun q => by rw [hm]; exact str_of (c := c1) ((hrd1.drewN m).drewN q)
        have s2 : ∀ q, (convert 26 9 (.slice A2 p.2.length c2)).run Tryz.prog (wr.drewN q) = .ok (.string (strB p.2)) (wr.drewN q) := fun q => by rw [hm]; exact str_of (c := c2) ((hrd2.drewN m).drewN q)
        have s3 : ∀ q, (convert 26 9 (.slice A3 p'.1.length c3)).run Tryz.prog (wr.drewN q) = .ok (.string (strB p'.1)) (wr.drewN q) := fun q => by rw [hm]; exact str_of (c := c3) ((hrd3.drewN m).drewN q)
        have s4 : ∀ q, (convert 26 9 (.slice A4 p'.2.length c4)).run Tryz.prog (wr.drewN q) = .ok (.string (strB p'.2)) (wr.drewN q) := fun q => by rw [hm]; exact str_of (c := c4) ((hrd4.drewN m).drewN q)
        have t1 := strL_eq (HB.out p (List.mem_of_getElem? hp)).1 (HB'.out p' (List.mem_of_getElem? hp')).1
        have t2 := strL_eq (HB.out p (List.mem_of_getElem? hp)).2 (HB'.out p' (List.mem_of_getElem? hp')).2
        have HP := Lib.hid hp
        have HP' := Lib.hid hp'
        clear hp hp' hcell1 hcell2 hcell3 hcell4 hrd1 hrd2 hrd3 hrd4 hm
        have HNE : Hid (p ≠ p' → decide (ps = ps') = false) := Lib.hid (fun hne => by
          rw [decide_eq_false_iff_not]
          rintro rfl
          have h1 := HP.out
          rw [HP'.out] at h1
          injection h1 with h1
          exact hne h1.symm)
        by_cases he1 : p.1 = p'.1
        · rw [decide_eq_true he1] at t1
          by_cases he2 : p.2 = p'.2
          · rw [decide_eq_true he2] at t2
            have HE := Lib.hid (show p = p' from Prod.ext he1 he2)
            clear he1 he2
            go_wp2
            go_quiet (fail)
            go_wp2
            go_roundw
            case rel =>
              refine ⟨j + 1, by omega, by go_num, Lib.hid (fun i hi => ?_), m + nq, by rw [HM.out, World.drewN_drewN]⟩
              rcases Nat.lt_or_ge i j with h1 | h1
              · exact HS.out i h1
              · obtain rfl : i = j := by omega
                rw [HP.out, HP'.out, HE.out]
            case measure => simp [intOf]; omega
          · rw [decide_eq_false he2] at t2
            have HE := Lib.hid (HNE.out (fun e => he2 (by rw [e])))
            clear he1 he2
            go_wp2
            go_quiet (fail)
            go_wp2
            go_ret
            exact ⟨ret_bool HE.out.symm, m + nq, by rw [HM.out, World.drewN_drewN]⟩
        · rw [decide_eq_false he1] at t1
          have HE := Lib.hid (HNE.out (fun e => he1 (by rw [e])))
          clear he1
          go_wp2
          go_quiet (fail)
          go_wp2
          go_ret
          exact ⟨ret_bool HE.out.symm, m + nq, by rw [HM.out, World.drewN_drewN]⟩
      · have HE := Lib.hid (show decide (ps = ps') = true by
          rw [decide_eq_true_iff]
          apply List.ext_getElem?
          intro i
          rcases Nat.lt_or_ge i n with h1 | h1
          · exact HS.out i (by omega)
          · rw [List.getElem?_eq_none (by have := HL.out; omega), List.getElem?_eq_none (by have := HL'.out; omega)])
        clear hm
        go_wp2
        go_ret
        exact ⟨ret_bool HE.out.symm, m, HM.out⟩
  · have HE := Lib.hid (show decide (ps = ps') = false by rw [decide_eq_false_iff_not]; rintro rfl; omega)
    have hd : ((n : Int) == (n' : Int)) = false := by simp; omega
    have hd2 : ((n : Int) != (n' : Int)) = true := by simp; omega
    clear h h' hl hl' hne
    go_enter Tryz.func60, Tryz.ntmps60
    go_wp2
    go_ret
    exact ⟨ret_bool HE.out.symm, 0, rfl⟩
theorem samePs_below (w : World) {A A' : Option Addr} {n c n' c' B B' : Nat} {ps ps' : List Pr} (hn : n ≤ 100000) (hn' : n' ≤ 100000) (hb : BytesP ps) (hb' : BytesP ps') (h : RdP w B A n ps) (h' : RdP w B' A' n' ps') :
    Calls Tryz.prog 60 #[.slice A n c, .slice A' n' c'] w fun e w' => e = .returned (.bool (decide (ps = ps'))) ∧ Below w.heap.size w w' :=
  (samePs_any w hn hn' hb hb' h h').mono fun e w' ⟨h1, m, h2⟩ => ⟨h1, by rw [h2]; exact belowN_d m⟩
end Go.Proofs.YtaknfmionkkdjaaGreat

namespace Go.Proofs.YtaknfmionkkdjaaGreat
open Go.RowKit
set_option linter.unusedVariables false
/-- alike -/
def Ob.same (s t : Ob) : Bool := decide (s.reg = t.reg) && (decide (s.q = t.q) && (decide (s.lk = t.lk) && decide (s.mp = t.mp)))
theorem sameI_below (w : World) (A A' : Option Addr) (n c n' c' B B' : Nat) (zs zs' : List Int) (h : Rd w B A n (iv zs)) (h' : Rd w B' A' n' (iv zs')) (hn : n ≤ maxLen) (hn' : n' ≤ maxLen) :
    Calls Tryz.prog 28 #[.slice A n c, .slice A' n' c'] w fun e w' => e = .returned (.bool (decide (zs = zs'))) ∧ Below w.heap.size w w' :=
  (same_any w A A' n c n' c' B B' zs zs' h h' hn hn').mono fun e w' ⟨h1, k, h2⟩ => ⟨h1, by first | (rw [h2]; exact belowN_d k) | (subst h2; exact belowN_d k)⟩
set_option maxRecDepth 100000 in
set_option maxHeartbeats 2000000 in
theorem sameO_any (w : World) {a a' : OA} {s s' : Ob} {B B' : Nat} (hI : s.Inv) (hI' : s'.Inv) (h : RdO w B a s) (h' : RdO w B' a' s') :
    Calls Tryz.prog 39 #[objV a s, objV a' s'] w fun e w' => e = .returned (.bool (s.same s')) ∧ Below w.heap.size w w' := by
  obtain ⟨A0, c0, A1, c1, A2, c2, A3, c3⟩ := a
  obtain ⟨D0, d0, D1, d1, D2, d2, D3, d3⟩ := a'
  obtain ⟨wz, hwz⟩ : ∃ wz, (w.alloc (.cells (objC ⟨A0, c0, A1, c1, A2, c2, A3, c3⟩ s) 30)).alloc (.cells (objC ⟨D0, d0, D1, d1, D2, d2, D3, d3⟩ s') 30) = wz := ⟨_, rfl⟩
  have hbz : Below w.heap.size w wz := by rw [← hwz]; exact ((Below.refl _ _).alloc (Nat.le_refl _) _).alloc (by simp) _
  have H := Lib.hid (h.fit.below hbz)
  have H' := Lib.hid (h'.fit.below hbz)
  have HI := Lib.hid hI
  have HI' := Lib.hid hI'
  have HW := Lib.hid hwz
  have HBZ := Lib.hid hbz
  have k1 := str_of (c := c0) H.out.r0
  have k2 := str_of (c := d0) H'.out.r0
  have k3 := strL_eq hI.regb hI'.regb
  have m1 : s.q.length ≤ maxLen := by have := hI.ql; unfold maxLen; omega
  have m2 : s'.q.length ≤ maxLen := by have := hI'.ql; unfold maxLen; omega
  have m3 : s.lk.length ≤ maxLen := by have := hI.lkl; unfold maxLen; omega
  have m4 : s'.lk.length ≤ maxLen := by have := hI'.lkl; unfold maxLen; omega
  have m5 : s.mp.length ≤ 100000 := by have := hI.mp.few; omega
  have m6 : s'.mp.length ≤ 100000 := by have := hI'.mp.few; omega
  have C1 : Hid (∀ wx, Below wz.heap.size wz wx → Calls Tryz.prog 59 #[.slice A1 s.q.length c1, .slice D1 s'.q.length d1] wx fun e w' => e = .returned (.bool (decide (s.q = s'.q))) ∧ Below wx.heap.size wx w') := Lib.hid (fun wx hb => sameRows_below wx hI.qb hI'.qb (H.out.r1.fit.below hb) (H'.out.r1.fit.below hb) m1 m2)
  have C2 : Hid (∀ wx, Below wz.heap.size wz wx → Calls Tryz.prog 28 #[.slice A2 s.lk.length c2, .slice D2 s'.lk.length d2] wx fun e w' => e = .returned (.bool (decide (s.lk = s'.lk))) ∧ Below wx.heap.size wx w') := Lib.hid (fun wx hb => sameI_below wx _ _ _ _ _ _ _ _ _ _ (H.out.r2.fit.below hb) (H'.out.r2.fit.below hb) m3 m4)
  have C3 : Hid (∀ wx, Below wz.heap.size wz wx → Calls Tryz.prog 60 #[.slice A3 s.mp.length c3, .slice D3 s'.mp.length d3] wx fun e w' => e = .returned (.bool (decide (s.mp = s'.mp))) ∧ Below wx.heap.size wx w') := Lib.hid (fun wx hb => samePs_below wx m5 m6 hI.mp.byt hI'.mp.byt (H.out.r3.fit.below hb) (H'.out.r3.fit.below hb))
  have HV : Hid (Blk wz w.heap.size 30 (objC ⟨A0, c0, A1, c1, A2, c2, A3, c3⟩ s) ∧ Blk wz (w.heap.size + 1) 30 (objC ⟨D0, d0, D1, d1, D2, d2, D3, d3⟩ s')) := Lib.hid (by
    rw [← hwz]
    refine ⟨(Blk.new _ _ _).alloc _, ?_⟩
    have := Blk.new (w.alloc (.cells (objC ⟨A0, c0, A1, c1, A2, c2, A3, c3⟩ s) 30)) 30 (objC ⟨D0, d0, D1, d1, D2, d2, D3, d3⟩ s')
    rwa [World.size_alloc] at this)
  clear h h' hI hI' hwz hbz m1 m2 m3 m4 m5 m6
  obtain ⟨p1, hp1⟩ : ∃ p, decide (s.reg = s'.reg) = p := ⟨_, rfl⟩
  obtain ⟨p2, hp2⟩ : ∃ p, decide (s.q = s'.q) = p := ⟨_, rfl⟩
  obtain ⟨p3, hp3⟩ : ∃ p, decide (s.lk = s'.lk) = p := ⟨_, rfl⟩
  obtain ⟨p4, hp4⟩ : ∃ p, decide (s.mp = s'.mp) = p := ⟨_, rfl⟩
  have HS := Lib.hid (show s.same s' = (p1 && (p2 && (p3 && p4))) by unfold Ob.same; rw [hp1, hp2, hp3, hp4])
  rw [hp1] at k3
  rw [hp2] at C1
  rw [hp3] at C2
  rw [hp4] at C3
  rw [HS.out]
  clear hp1 hp2 hp3 hp4 HS
  unfold objV
  simp only [objC] at HW HV ⊢
  go_enter Tryz.func39, Tryz.ntmps39
  go_upto_region 1 with fail
  rw [HW.out]
  obtain ⟨x0, x1, x2, x3, _, _, _, _⟩ := four HV.out.1
  obtain ⟨y0, y1, y2, y3, _, _, _, _⟩ := four HV.out.2
  cases p1
  case false =>
    go_wp2_with (first
      | (go_at_call 59; refine (C1.out _ (Below.refl _ _)).mono ?_; rintro e w2 ⟨rfl, hb2⟩
         have hv2 := And.intro (HV.out.1.below hb2) (HV.out.2.below hb2)
         obtain ⟨x0, x1, x2, x3, _, _, _, _⟩ := four hv2.1
         obtain ⟨y0, y1, y2, y3, _, _, _, _⟩ := four hv2.2
         clear hv2)
      | (go_at_call 28; refine (C2.out _ hb2).mono ?_; rintro e w3 ⟨rfl, hb3⟩
         have hb3' := hb2.trans (hb3.mono hb2.size)
         have hv3 := And.intro (HV.out.1.below hb3') (HV.out.2.below hb3')
         obtain ⟨x0, x1, x2, x3, _, _, _, _⟩ := four hv3.1
         obtain ⟨y0, y1, y2, y3, _, _, _, _⟩ := four hv3.2
         clear hv3)
      | (go_at_call 60; refine (C3.out _ hb3').mono ?_; rintro e w4 ⟨rfl, hb4⟩)
      | fail)
    go_ret
    exact ⟨rfl, HBZ.out⟩
  case true =>
    cases p2
    case false =>
      go_wp2_with (first
        | (go_at_call 59; refine (C1.out _ (Below.refl _ _)).mono ?_; rintro e w2 ⟨rfl, hb2⟩
           have hv2 := And.intro (HV.out.1.below hb2) (HV.out.2.below hb2)
           obtain ⟨x0, x1, x2, x3, _, _, _, _⟩ := four hv2.1
           obtain ⟨y0, y1, y2, y3, _, _, _, _⟩ := four hv2.2
           clear hv2)
        | (go_at_call 28; refine (C2.out _ hb2).mono ?_; rintro e w3 ⟨rfl, hb3⟩
           have hb3' := hb2.trans (hb3.mono hb2.size)
           have hv3 := And.intro (HV.out.1.below hb3') (HV.out.2.below hb3')
           obtain ⟨x0, x1, x2, x3, _, _, _, _⟩ := four hv3.1
           obtain ⟨y0, y1, y2, y3, _, _, _, _⟩ := four hv3.2
           clear hv3)
        | (go_at_call 60; refine (C3.out _ hb3').mono ?_; rintro e w4 ⟨rfl, hb4⟩)
        | fail)
      go_ret
      exact ⟨rfl, HBZ.out.trans (hb2.mono HBZ.out.size)⟩
    case true =>
      cases p3
      case false =>
        go_wp2_with (first
          | (go_at_call 59; refine (C1.out _ (Below.refl _ _)).mono ?_; rintro e w2 ⟨rfl, hb2⟩
             have hv2 := And.intro (HV.out.1.below hb2) (HV.out.2.below hb2)
             obtain ⟨x0, x1, x2, x3, _, _, _, _⟩ := four hv2.1
             obtain ⟨y0, y1, y2, y3, _, _, _, _⟩ := four hv2.2
             clear hv2)
          | (go_at_call 28; refine (C2.out _ hb2).mono ?_; rintro e w3 ⟨rfl, hb3⟩
             have hb3' := hb2.trans (hb3.mono hb2.size)
             have hv3 := And.intro (HV.out.1.below hb3') (HV.out.2.below hb3')
             obtain ⟨x0, x1, x2, x3, _, _, _, _⟩ := four hv3.1
             obtain ⟨y0, y1, y2, y3, _, _, _, _⟩ := four hv3.2
             clear hv3)
          | (go_at_call 60; refine (C3.out _ hb3').mono ?_; rintro e w4 ⟨rfl, hb4⟩)
          | fail)
        go_ret
        exact ⟨rfl, HBZ.out.trans (hb3'.mono HBZ.out.size)⟩
      case true =>
        cases p4
        case false =>
          go_wp2_with (first
            | (go_at_call 59; refine (C1.out _ (Below.refl _ _)).mono ?_; rintro e w2 ⟨rfl, hb2⟩
               have hv2 := And.intro (HV.out.1.below hb2) (HV.out.2.below hb2)
               obtain ⟨x0, x1, x2, x3, _, _, _, _⟩ := four hv2.1
               obtain ⟨y0, y1, y2, y3, _, _, _, _⟩ := four hv2.2
               clear hv2)
            | (go_at_call 28; refine (C2.out _ hb2).mono ?_; rintro e w3 ⟨rfl, hb3⟩
               have hb3' := hb2.trans (hb3.mono hb2.size)
               have hv3 := And.intro (HV.out.1.below hb3') (HV.out.2.below hb3')
               obtain ⟨x0, x1, x2, x3, _, _, _, _⟩ := four hv3.1
               obtain ⟨y0, y1, y2, y3, _, _, _, _⟩ := four hv3.2
               clear hv3)
            | (go_at_call 60; refine (C3.out _ hb3').mono ?_; rintro e w4 ⟨rfl, hb4⟩)
            | fail)
          go_ret
          exact ⟨rfl, (HBZ.out.trans (hb3'.mono HBZ.out.size)).trans (hb4.mono (by have h1 := HBZ.out.size; have h2 := hb3'.size; omega))⟩
        case true =>
          go_wp2_with (first
            | (go_at_call 59; refine (C1.out _ (Below.refl _ _)).mono ?_; rintro e w2 ⟨rfl, hb2⟩
               have hv2 := And.intro (HV.out.1.below hb2) (HV.out.2.below hb2)
               obtain ⟨x0, x1, x2, x3, _, _, _, _⟩ := four hv2.1
               obtain ⟨y0, y1, y2, y3, _, _, _, _⟩ := four hv2.2
               clear hv2)
            | (go_at_call 28; refine (C2.out _ hb2).mono ?_; rintro e w3 ⟨rfl, hb3⟩
               have hb3' := hb2.trans (hb3.mono hb2.size)
               have hv3 := And.intro (HV.out.1.below hb3') (HV.out.2.below hb3')
               obtain ⟨x0, x1, x2, x3, _, _, _, _⟩ := four hv3.1
               obtain ⟨y0, y1, y2, y3, _, _, _, _⟩ := four hv3.2
               clear hv3)
            | (go_at_call 60; refine (C3.out _ hb3').mono ?_; rintro e w4 ⟨rfl, hb4⟩)
            | fail)
          go_ret
          exact ⟨rfl, (HBZ.out.trans (hb3'.mono HBZ.out.size)).trans (hb4.mono (by have h1 := HBZ.out.size; have h2 := hb3'.size; omega))⟩
end Go.Proofs.YtaknfmionkkdjaaGreat

