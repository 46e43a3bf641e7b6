/- hocketref4.SameObjects, hocketref4.Ok. -/
import Derived.Test.YtcmjpjhaaookfaaObjKit
import Derived.Test.YtcmjpjhaaookfaaSamePairs
import Derived.Test.YtcmjpjhaaookfaaSameRows
import Derived.Test.YtcmjpjhaaookfaaSameInts
namespace Go.Proofs.Ytcmjpjhaaookfaa
open Go.RowKit
set_option linter.unusedVariables false
/-- alike -/
def Ob.same (s t : Ob) : Bool := decide (s.reg = t.reg) && (decide (s.q = t.q) && (decide (s.lk = t.lk) && decide (s.mp = t.mp)))
theorem Ob.same_self (s : Ob) : s.same s = true := by simp [Ob.same]
theorem sameI_below (w : World) (A A' : Option Addr) (n c n' c' B B' : Nat) (zs zs' : List Int) (h : Rd w B A n (iv zs)) (h' : Rd w B' A' n' (iv zs')) (hn : n ≤ maxLen) (hn' : n' ≤ maxLen) :
    Calls Try.prog 61 #[.slice A n c, .slice A' n' c'] w fun e w' => e = .returned (.bool (decide (zs = zs'))) ∧ Below w.heap.size w w' :=
  (same_any w A A' n c n' c' B B' zs zs' h h' hn hn').mono fun e w' ⟨h1, k, h2⟩ => ⟨h1, by first | (rw [h2]; exact belowN_d k) | (subst h2; exact belowN_d k)⟩
set_option maxRecDepth 100000 in
set_option maxHeartbeats 2000000 in
theorem sameO_any (w : World) {a a' : OA} {s s' : Ob} {B B' : Nat} (hI : s.Inv) (hI' : s'.Inv) (h : RdO w B a s) (h' : RdO w B' a' s') :
    Calls Try.prog 17 #[objV a s, objV a' s'] w fun e w' => e = .returned (.bool (s.same s')) ∧ Below w.heap.size w w' := by
  obtain ⟨A0, c0, A1, c1, A2, c2, A3, c3⟩ := a
  obtain ⟨D0, d0, D1, d1, D2, d2, D3, d3⟩ := a'
  obtain ⟨wz, hwz⟩ : ∃ wz, (w.alloc (.cells (objC ⟨A0, c0, A1, c1, A2, c2, A3, c3⟩ s) 32)).alloc (.cells (objC ⟨D0, d0, D1, d1, D2, d2, D3, d3⟩ s') 32) = wz := ⟨_, rfl⟩
  have hbz : Below w.heap.size w wz := by rw [← hwz]; exact ((Below.refl _ _).alloc (Nat.le_refl _) _).alloc (by simp) _
  have H := Lib.hid (h.fit.below hbz)
  have H' := Lib.hid (h'.fit.below hbz)
  have HI := Lib.hid hI
  have HI' := Lib.hid hI'
  have HW := Lib.hid hwz
  have HBZ := Lib.hid hbz
  have k1 := str_of (c := c0) H.out.r0
  have k2 := str_of (c := d0) H'.out.r0
  have k3 := strL_eq hI.regb hI'.regb
  have m1 : s.q.length ≤ maxLen := by have := hI.ql; unfold maxLen; omega
  have m2 : s'.q.length ≤ maxLen := by have := hI'.ql; unfold maxLen; omega
  have m3 : s.lk.length ≤ maxLen := by have := hI.lkl; unfold maxLen; omega
  have m4 : s'.lk.length ≤ maxLen := by have := hI'.lkl; unfold maxLen; omega
  have m5 : s.mp.length ≤ 100000 := by have := hI.mp.few; omega
  have m6 : s'.mp.length ≤ 100000 := by have := hI'.mp.few; omega
  have C1 : Hid (∀ wx, Below wz.heap.size wz wx → Calls Try.prog 22 #[.slice A1 s.q.length c1, .slice D1 s'.q.length d1] wx fun e w' => e = .returned (.bool (decide (s.q = s'.q))) ∧ Below wx.heap.size wx w') := Lib.hid (fun wx hb => sameRows_below wx hI.qb hI'.qb (H.out.r1.fit.below hb) (H'.out.r1.fit.below hb) m1 m2)
  have C2 : Hid (∀ wx, Below wz.heap.size wz wx → Calls Try.prog 61 #[.slice A2 s.lk.length c2, .slice D2 s'.lk.length d2] wx fun e w' => e = .returned (.bool (decide (s.lk = s'.lk))) ∧ Below wx.heap.size wx w') := Lib.hid (fun wx hb => sameI_below wx _ _ _ _ _ _ _ _ _ _ (H.out.r2.fit.below hb) (H'.out.r2.fit.below hb) m3 m4)
  have C3 : Hid (∀ wx, Below wz.heap.size wz wx → Calls Try.prog 23 #[.slice A3 s.mp.length c3, .slice D3 s'.mp.length d3] wx fun e w' => e = .returned (.bool (decide (s.mp = s'.mp))) ∧ Below wx.heap.size wx w') := Lib.hid (fun wx hb => samePs_below wx m5 m6 hI.mp.byt hI'.mp.byt (H.out.r3.fit.below hb) (H'.out.r3.fit.below hb))
  have HV : Hid (Blk wz w.heap.size 32 (objC ⟨A0, c0, A1, c1, A2, c2, A3, c3⟩ s) ∧ Blk wz (w.heap.size + 1) 32 (objC ⟨D0, d0, D1, d1, D2, d2, D3, d3⟩ s')) := Lib.hid (by
    rw [← hwz]
    refine ⟨(Blk.new _ _ _).alloc _, ?_⟩
    have := Blk.new (w.alloc (.cells (objC ⟨A0, c0, A1, c1, A2, c2, A3, c3⟩ s) 32)) 32 (objC ⟨D0, d0, D1, d1, D2, d2, D3, d3⟩ s')
    rwa [World.size_alloc] at this)
  clear h h' hI hI' hwz hbz m1 m2 m3 m4 m5 m6
  obtain ⟨p1, hp1⟩ : ∃ p, decide (s.reg = s'.reg) = p := ⟨_, rfl⟩
  obtain ⟨p2, hp2⟩ : ∃ p, decide (s.q = s'.q) = p := ⟨_, rfl⟩
  obtain ⟨p3, hp3⟩ : ∃ p, decide (s.lk = s'.lk) = p := ⟨_, rfl⟩
  obtain ⟨p4, hp4⟩ : ∃ p, decide (s.mp = s'.mp) = p := ⟨_, rfl⟩
  have HS := Lib.hid (show s.same s' = (p1 && (p2 && (p3 && p4))) by unfold Ob.same; rw [hp1, hp2, hp3, hp4])
  rw [hp1] at k3
  rw [hp2] at C1
  rw [hp3] at C2
  rw [hp4] at C3
  rw [HS.out]
  clear hp1 hp2 hp3 hp4 HS
  unfold objV
  simp only [objC] at HW HV ⊢
  go_enter Try.func17, Try.ntmps17
  go_upto_region 1 with fail
  rw [HW.out]
  obtain ⟨x0, x1, x2, x3, _, _, _, _⟩ := four HV.out.1
  obtain ⟨y0, y1, y2, y3, _, _, _, _⟩ := four HV.out.2
  cases p1
  case false =>
    go_wp2_with (first
      | (go_at_call 22; refine (C1.out _ (Below.refl _ _)).mono ?_; rintro e w2 ⟨rfl, hb2⟩
         have hv2 := And.intro (HV.out.1.below hb2) (HV.out.2.below hb2)
         obtain ⟨x0, x1, x2, x3, _, _, _, _⟩ := four hv2.1
         obtain ⟨y0, y1, y2, y3, _, _, _, _⟩ := four hv2.2
         clear hv2)
      | (go_at_call 61; refine (C2.out _ hb2).mono ?_; rintro e w3 ⟨rfl, hb3⟩
         have hb3' := hb2.trans (hb3.mono hb2.size)
         have hv3 := And.intro (HV.out.1.below hb3') (HV.out.2.below hb3')
         obtain ⟨x0, x1, x2, x3, _, _, _, _⟩ := four hv3.1
         obtain ⟨y0, y1, y2, y3, _, _, _, _⟩ := four hv3.2
         clear hv3)
      | (go_at_call 23; refine (C3.out _ hb3').mono ?_; rintro e w4 ⟨rfl, hb4⟩)
      | fail)
    go_ret
    exact ⟨rfl, HBZ.out⟩
  case true =>
    cases p2
    case false =>
      go_wp2_with (first
        | (go_at_call 22; refine (C1.out _ (Below.refl _ _)).mono ?_; rintro e w2 ⟨rfl, hb2⟩
           have hv2 := And.intro (HV.out.1.below hb2) (HV.out.2.below hb2)
           obtain ⟨x0, x1, x2, x3, _, _, _, _⟩ := four hv2.1
           obtain ⟨y0, y1, y2, y3, _, _, _, _⟩ := four hv2.2
           clear hv2)
        | (go_at_call 61; refine (C2.out _ hb2).mono ?_; rintro e w3 ⟨rfl, hb3⟩
           have hb3' := hb2.trans (hb3.mono hb2.size)
           have hv3 := And.intro (HV.out.1.below hb3') (HV.out.2.below hb3')
           obtain ⟨x0, x1, x2, x3, _, _, _, _⟩ := four hv3.1
           obtain ⟨y0, y1, y2, y3, _, _, _, _⟩ := four hv3.2
           clear hv3)
        | (go_at_call 23; refine (C3.out _ hb3').mono ?_; rintro e w4 ⟨rfl, hb4⟩)
        | fail)
      go_ret
      exact ⟨rfl, HBZ.out.trans (hb2.mono HBZ.out.size)⟩
    case true =>
      cases p3
      case false =>
        go_wp2_with (first
          | (go_at_call 22; refine (C1.out _ (Below.refl _ _)).mono ?_; rintro e w2 ⟨rfl, hb2⟩
             have hv2 := And.intro (HV.out.1.below hb2) (HV.out.2.below hb2)
             obtain ⟨x0, x1, x2, x3, _, _, _, _⟩ := four hv2.1
             obtain ⟨y0, y1, y2, y3, _, _, _, _⟩ := four hv2.2
             clear hv2)
          | (go_at_call 61; refine (C2.out _ hb2).mono ?_; rintro e w3 ⟨rfl, hb3⟩
             have hb3' := hb2.trans (hb3.mono hb2.size)
             have hv3 := And.intro (HV.out.1.below hb3') (HV.out.2.below hb3')
             obtain ⟨x0, x1, x2, x3, _, _, _, _⟩ := four hv3.1
             obtain ⟨y0, y1, y2, y3, _, _, _, _⟩ := four hv3.2
             clear hv3)
          | (go_at_call 23; refine (C3.out _ hb3').mono ?_; rintro e w4 ⟨rfl, hb4⟩)
          | fail)
        go_ret
        exact ⟨rfl, HBZ.out.trans (hb3'.mono HBZ.out.size)⟩
      case true =>
        cases p4
        case false =>
          go_wp2_with (first
            | (go_at_call 22; refine (C1.out _ (Below.refl _ _)).mono ?_; rintro e w2 ⟨rfl, hb2⟩
               have hv2 := And.intro (HV.out.1.below hb2) (HV.out.2.below hb2)
               obtain ⟨x0, x1, x2, x3, _, _, _, _⟩ := four hv2.1
               obtain ⟨y0, y1, y2, y3, _, _, _, _⟩ := four hv2.2
               clear hv2)
            | (go_at_call 61; refine (C2.out _ hb2).mono ?_; rintro e w3 ⟨rfl, hb3⟩
               have hb3' := hb2.trans (hb3.mono hb2.size)
               have hv3 := And.intro (HV.out.1.below hb3') (HV.out.2.below hb3')
               obtain ⟨x0, x1, x2, x3, _, _, _, _⟩ := four hv3.1
               obtain ⟨y0, y1, y2, y3, _, _, _, _⟩ := four hv3.2
               clear hv3)
            | (go_at_call 23; refine (C3.out _ hb3').mono ?_; rintro e w4 ⟨rfl, hb4⟩)
            | fail)
          go_ret
          exact ⟨rfl, (HBZ.out.trans (hb3'.mono HBZ.out.size)).trans (hb4.mono (by have h1 := HBZ.out.size; have h2 := hb3'.size; omega))⟩
        case true =>
          go_wp2_with (first
            | (go_at_call 22; refine (C1.out _ (Below.refl _ _)).mono ?_; rintro e w2 ⟨rfl, hb2⟩
               have hv2 := And.intro (HV.out.1.below hb2) (HV.out.2.below hb2)
               obtain ⟨x0, x1, x2, x3, _, _, _, _⟩ := four hv2.1
               obtain ⟨y0, y1, y2, y3, _, _, _, _⟩ := four hv2.2
               clear hv2)
            | (go_at_call 61; refine (C2.out _ hb2).mono ?_; rintro e w3 ⟨rfl, hb3⟩
               have hb3' := hb2.trans (hb3.mono hb2.size)
               have hv3 := And.intro (HV.out.1.below hb3') (HV.out.2.below hb3')
               obtain ⟨x0, x1, x2, x3, _, _, _, _⟩ := four hv3.1
               obtain ⟨y0, y1, y2, y3, _, _, _, _⟩ := four hv3.2
               clear hv3)
            | (go_at_call 23; refine (C3.out _ hb3').mono ?_; rintro e w4 ⟨rfl, hb4⟩)
            | fail)
          go_ret
          exact ⟨rfl, (HBZ.out.trans (hb3'.mono HBZ.out.size)).trans (hb4.mono (by have h1 := HBZ.out.size; have h2 := hb3'.size; omega))⟩
end Go.Proofs.Ytcmjpjhaaookfaa
