/- ObjSame ObjsC00 BitsKit ConstKit MapsC0 -/
import Derived.Test.YthfnnieklkaefaaGreatS01
import Derived.Test.YthfnnieklkaefaaGreatS04
import Derived.Test.YthfnnieklkaefaaGreatS05
import Derived.IntWalk
import Derived.Laws.BitsAllLaws
import Derived.Laws.DeepStrings4
namespace Go.Proofs.YthfnnieklkaefaaGreat
open Go.RowKit
set_option linter.unusedVariables false
/-- alike -/
def Ob.same (s t : Ob) : Bool := decide (s.reg = t.reg) && (decide (s.q = t.q) && (decide (s.lk = t.lk) && decide (s.mp = t.mp)))
theorem sameI_below (w : World) (A A' : Option Addr) (n c n' c' B B' : Nat) (zs zs' : List Int) (h : Rd w B A n (iv zs)) (h' : Rd w B' A' n' (iv zs')) (hn : n ≤ maxLen) (hn' : n' ≤ maxLen) :
    Calls Tryz.prog 38 #[.slice A n c, .slice A' n' c'] w fun e w' => e = .returned (.bool (decide (zs = zs'))) ∧ Below w.heap.size w w' :=
  (same_any w A A' n c n' c' B B' zs zs' h h' hn hn').mono fun e w' ⟨h1, k, h2⟩ => ⟨h1, by first | (rw [h2]; exact belowN_d k) | (subst h2; exact belowN_d k)⟩
set_option maxRecDepth 100000 in
set_option maxHeartbeats 2000000 in
theorem sameO_any (w : World) {a a' : OA} {s s' : Ob} {B B' : Nat} (hI : s.Inv) (hI' : s'.Inv) (h : RdO w B a s) (h' : RdO w B' a' s') :
    Calls Tryz.prog 12 #[objV a s, objV a' s'] w fun e w' => e = .returned (.bool (s.same s')) ∧ Below w.heap.size w w' := by
  obtain ⟨A0, c0, A1, c1, A2, c2, A3, c3⟩ := a
  obtain ⟨D0, d0, D1, d1, D2, d2, D3, d3⟩ := a'
  obtain ⟨wz, hwz⟩ : ∃ wz, (w.alloc (.cells (objC ⟨A0, c0, A1, c1, A2, c2, A3, c3⟩ s) 34)).alloc (.cells (objC ⟨D0, d0, D1, d1, D2, d2, D3, d3⟩ s') 34) = wz := ⟨_, rfl⟩
  have hbz : Below w.heap.size w wz := by rw [← hwz]; exact ((Below.refl _ _).alloc (Nat.le_refl _) _).alloc (by simp) _
  have H := Lib.hid (h.fit.below hbz)
  have H' := Lib.hid (h'.fit.below hbz)
  have HI := Lib.hid hI
  have HI' := Lib.hid hI'
  have HW := Lib.hid hwz
  have HBZ := Lib.hid hbz
  have k1 := str_of (c := c0) H.out.r0
  have k2 := str_of (c := d0) H'.out.r0
  have k3 := strL_eq hI.regb hI'.regb
  have m1 : s.q.length ≤ maxLen := by have := hI.ql; unfold maxLen; omega
  have m2 : s'.q.length ≤ maxLen := by have := hI'.ql; unfold maxLen; omega
  have m3 : s.lk.length ≤ maxLen := by have := hI.lkl; unfold maxLen; omega
  have m4 : s'.lk.length ≤ maxLen := by have := hI'.lkl; unfold maxLen; omega
  have m5 : s.mp.length ≤ 100000 := by have := hI.mp.few; omega
  have m6 : s'.mp.length ≤ 100000 := by have := hI'.mp.few; omega
  have C1 : Hid (∀ wx, Below wz.heap.size wz wx → Calls Tryz.prog 37 #[.slice A1 s.q.length c1, .slice D1 s'.q.length d1] wx fun e w' => e = .returned (.bool (decide (s.q = s'.q))) ∧ Below wx.heap.size wx w') := Lib.hid (fun wx hb => sameRows_below wx hI.qb hI'.qb (H.out.r1.fit.below hb) (H'.out.r1.fit.below hb) m1 m2)
  have C2 : Hid (∀ wx, Below wz.heap.size wz wx → Calls Tryz.prog 38 #[.slice A2 s.lk.length c2, .slice D2 s'.lk.length d2] wx fun e w' => e = .returned (.bool (decide (s.lk = s'.lk))) ∧ Below wx.heap.size wx w') := Lib.hid (fun wx hb => sameI_below wx _ _ _ _ _ _ _ _ _ _ (H.out.r2.fit.below hb) (H'.out.r2.fit.below hb) m3 m4)
  have C3 : Hid (∀ wx, Below wz.heap.size wz wx → Calls Tryz.prog 39 #[.slice A3 s.mp.length c3, .slice D3 s'.mp.length d3] wx fun e w' => e = .returned (.bool (decide (s.mp = s'.mp))) ∧ Below wx.heap.size wx w') := Lib.hid (fun wx hb => samePs_below wx m5 m6 hI.mp.byt hI'.mp.byt (H.out.r3.fit.below hb) (H'.out.r3.fit.below hb))
  have HV : Hid (Blk wz w.heap.size 34 (objC ⟨A0, c0, A1, c1, A2, c2, A3, c3⟩ s) ∧ Blk wz (w.heap.size + 1) 34 (objC ⟨D0, d0, D1, d1, D2, d2, D3, d3⟩ s')) := Lib.hid (by
    rw [← hwz]
    refine ⟨(Blk.new _ _ _).alloc _, ?_⟩
    have := Blk.new (w.alloc (.cells (objC ⟨A0, c0, A1, c1, A2, c2, A3, c3⟩ s) 34)) 34 (objC ⟨D0, d0, D1, d1, D2, d2, D3, d3⟩ s')
    rwa [World.size_alloc] at this)
  clear h h' hI hI' hwz hbz m1 m2 m3 m4 m5 m6
  obtain ⟨p1, hp1⟩ : ∃ p, decide (s.reg = s'.reg) = p := ⟨_, rfl⟩
  obtain ⟨p2, hp2⟩ : ∃ p, decide (s.q = s'.q) = p := ⟨_, rfl⟩
  obtain ⟨p3, hp3⟩ : ∃ p, decide (s.lk = s'.lk) = p := ⟨_, rfl⟩
  obtain ⟨p4, hp4⟩ : ∃ p, decide (s.mp = s'.mp) = p := ⟨_, rfl⟩
  have HS := Lib.hid (show s.same s' = (p1 && (p2 && (p3 && p4))) by unfold Ob.same; rw [hp1, hp2, hp3, hp4])
  rw [hp1] at k3
  rw [hp2] at C1
  rw [hp3] at C2
  rw [hp4] at C3
  rw [HS.out]
  clear hp1 hp2 hp3 hp4 HS
  unfold objV
  simp only [objC] at HW HV ⊢
  go_enter Tryz.func12, Tryz.ntmps12
  go_upto_region 1 with fail
  rw [HW.out]
  obtain ⟨x0, x1, x2, x3, _, _, _, _⟩ := four HV.out.1
  obtain ⟨y0, y1, y2, y3, _, _, _, _⟩ := four HV.out.2
  cases p1
  case false =>
    go_wp2_with (first
      | (go_at_call 37; refine (C1.out _ (Below.refl _ _)).mono ?_; rintro e w2 ⟨rfl, hb2⟩
         have hv2 := And.intro (HV.out.1.below hb2) (HV.out.2.below hb2)
         obtain ⟨x0, x1, x2, x3, _, _, _, _⟩ := four hv2.1
         obtain ⟨y0, y1, y2, y3, _, _, _, _⟩ := four hv2.2
         clear hv2)
      | (go_at_call 38; refine (C2.out _ hb2).mono ?_; rintro e w3 ⟨rfl, hb3⟩
         have hb3' := hb2.trans (hb3.mono hb2.size)
         have hv3 := And.intro (HV.out.1.below hb3') (HV.out.2.below hb3')
         obtain ⟨x0, x1, x2, x3, _, _, _, _⟩ := four hv3.1
         obtain ⟨y0, y1, y2, y3, _, _, _, _⟩ := four hv3.2
         clear hv3)
      | (go_at_call 39; refine (C3.out _ hb3').mono ?_; rintro e w4 ⟨rfl, hb4⟩)
      | fail)
    go_ret
    exact ⟨rfl, HBZ.out⟩
  case true =>
    cases p2
    case false =>
      go_wp2_with (first
        | (go_at_call 37; refine (C1.out _ (Below.refl _ _)).mono ?_; rintro e w2 ⟨rfl, hb2⟩
           have hv2 := And.intro (HV.out.1.below hb2) (HV.out.2.below hb2)
           obtain ⟨x0, x1, x2, x3, _, _, _, _⟩ := four hv2.1
           obtain ⟨y0, y1, y2, y3, _, _, _, _⟩ := four hv2.2
           clear hv2)
        | (go_at_call 38; refine (C2.out _ hb2).mono ?_; rintro e w3 ⟨rfl, hb3⟩
           have hb3' := hb2.trans (hb3.mono hb2.size)
           have hv3 := And.intro (HV.out.1.below hb3') (HV.out.2.below hb3')
           obtain ⟨x0, x1, x2, x3, _, _, _, _⟩ := four hv3.1
           obtain ⟨y0, y1, y2, y3, _, _, _, _⟩ := four hv3.2
           clear hv3)
        | (go_at_call 39; refine (C3.out _ hb3').mono ?_; rintro e w4 ⟨rfl, hb4⟩)
        | fail)
      go_ret
      exact ⟨rfl, HBZ.out.trans (hb2.mono HBZ.out.size)⟩
    case true =>
      cases p3
      case false =>
        go_wp2_with (first
          | (go_at_call 37; refine (C1.out _ (Below.refl _ _)).mono ?_; rintro e w2 ⟨rfl, hb2⟩
             have hv2 := And.intro (HV.out.1.below hb2) (HV.out.2.below hb2)
             obtain ⟨x0, x1, x2, x3, _, _, _, _⟩ := four hv2.1
             obtain ⟨y0, y1, y2, y3, _, _, _, _⟩ := four hv2.2
             clear hv2)
          | (go_at_call 38; refine (C2.out _ hb2).mono ?_; rintro e w3 ⟨rfl, hb3⟩
             have hb3' := hb2.trans (hb3.mono hb2.size)
             have hv3 := And.intro (HV.out.1.below hb3') (HV.out.2.below hb3')
             obtain ⟨x0, x1, x2, x3, _, _, _, _⟩ := four hv3.1
             obtain ⟨y0, y1, y2, y3, _, _, _, _⟩ := four hv3.2
             clear hv3)
          | (go_at_call 39; refine (C3.out _ hb3').mono ?_; rintro e w4 ⟨rfl, hb4⟩)
          | fail)
        go_ret
        exact ⟨rfl, HBZ.out.trans (hb3'.mono HBZ.out.size)⟩
      case true =>
        cases p4
        case false =>
          go_wp2_with (first
            | (go_at_call 37; refine (C1.out _ (Below.refl _ _)).mono ?_; rintro e w2 ⟨rfl, hb2⟩
               have hv2 := And.intro (HV.out.1.below hb2) (HV.out.2.below hb2)
               obtain ⟨x0, x1, x2, x3, _, _, _, _⟩ := four hv2.1
               obtain ⟨y0, y1, y2, y3, _, _, _, _⟩ := four hv2.2
               clear hv2)
            | (go_at_call 38; refine (C2.out _ hb2).mono ?_; rintro e w3 ⟨rfl, hb3⟩
               have hb3' := hb2.trans (hb3.mono hb2.size)
               have hv3 := And.intro (HV.out.1.below hb3') (HV.out.2.below hb3')
               obtain ⟨x0, x1, x2, x3, _, _, _, _⟩ := four hv3.1
               obtain ⟨y0, y1, y2, y3, _, _, _, _⟩ := four hv3.2
               clear hv3)
            | (go_at_call 39; refine (C3.out _ hb3').mono ?_; rintro e w4 ⟨rfl, hb4⟩)
            | fail)
          go_ret
          exact ⟨rfl, (HBZ.out.trans (hb3'.mono HBZ.out.size)).trans (hb4.mono (by have h1 := HBZ.out.size; have h2 := hb3'.size; omega))⟩
        case true =>
          go_wp2_with (first
            | (go_at_call 37; refine (C1.out _ (Below.refl _ _)).mono ?_; rintro e w2 ⟨rfl, hb2⟩
               have hv2 := And.intro (HV.out.1.below hb2) (HV.out.2.below hb2)
               obtain ⟨x0, x1, x2, x3, _, _, _, _⟩ := four hv2.1
               obtain ⟨y0, y1, y2, y3, _, _, _, _⟩ := four hv2.2
               clear hv2)
            | (go_at_call 38; refine (C2.out _ hb2).mono ?_; rintro e w3 ⟨rfl, hb3⟩
               have hb3' := hb2.trans (hb3.mono hb2.size)
               have hv3 := And.intro (HV.out.1.below hb3') (HV.out.2.below hb3')
               obtain ⟨x0, x1, x2, x3, _, _, _, _⟩ := four hv3.1
               obtain ⟨y0, y1, y2, y3, _, _, _, _⟩ := four hv3.2
               clear hv3)
            | (go_at_call 39; refine (C3.out _ hb3').mono ?_; rintro e w4 ⟨rfl, hb4⟩)
            | fail)
          go_ret
          exact ⟨rfl, (HBZ.out.trans (hb3'.mono HBZ.out.size)).trans (hb4.mono (by have h1 := HBZ.out.size; have h2 := hb3'.size; omega))⟩
end Go.Proofs.YthfnnieklkaefaaGreat

namespace Go.Proofs.YthfnnieklkaefaaGreat
open Go.RowKit
set_option linter.unusedVariables false
def ApplyC8 : Prop := ∀ {W w : World} {a : OA} {ca : CA} {s : Ob} {c : Cm} {B B' : Nat}, s.Inv → c.Fits → RdO w B a s → RdC w B' ca c → Below W.heap.size W w →
  Calls Tryz.prog 32 #[objV a s, cmdV ca c] w (GotO W w (s.apply c))
end Go.Proofs.YthfnnieklkaefaaGreat

namespace Go.Proofs.YthfnnieklkaefaaGreat
theorem and_mask (n : Int) (j : Nat) (hj : j < 62) : bits .and .i64 n ((2 ^ j - 1 : Nat) : Int) = n % ((2 ^ j : Nat) : Int) := by
  have hp : 2 ^ j < 2 ^ 62 := Nat.pow_lt_pow_right (by omega) hj
  have hp0 : 0 < 2 ^ j := Nat.two_pow_pos j
  show IntKind.i64.wrap ((BitVec.ofInt 64 n &&& BitVec.ofInt 64 ((2 ^ j - 1 : Nat) : Int)).toNat : Int) = _
  have h1 : (BitVec.ofInt 64 ((2 ^ j - 1 : Nat) : Int)).toNat = 2 ^ j - 1 := by
    rw [BitVec.toNat_ofInt]
    have : (((2 ^ j - 1 : Nat) : Int) % ((2 ^ 64 : Nat) : Int)) = ((2 ^ j - 1 : Nat) : Int) := Int.emod_eq_of_lt (by omega) (by omega)
    rw [this]; simp
  have e : (BitVec.ofInt 64 n &&& BitVec.ofInt 64 ((2 ^ j - 1 : Nat) : Int)).toNat = (n % ((2 ^ j : Nat) : Int)).toNat := by
    rw [BitVec.toNat_and, h1, Nat.and_two_pow_sub_one_eq_mod, BitVec.toNat_ofInt]
    have hd : ((2 ^ j : Nat) : Int) ∣ ((2 ^ 64 : Nat) : Int) := by
      refine ⟨((2 ^ (64 - j) : Nat) : Int), ?_⟩
      rw [← Int.natCast_mul, ← Nat.pow_add, show j + (64 - j) = 64 by omega]
    have h2 := Int.emod_emod_of_dvd n hd
    have h3 := Int.emod_nonneg n (show ((2 ^ 64 : Nat) : Int) ≠ 0 by omega)
    have h4 := Int.emod_nonneg n (show ((2 ^ j : Nat) : Int) ≠ 0 by omega)
    have h5 : (((n % ((2 ^ 64 : Nat) : Int)).toNat % 2 ^ j : Nat) : Int) = n % ((2 ^ j : Nat) : Int) := by
      rw [Int.natCast_emod, Int.toNat_of_nonneg h3, h2]
    omega
  rw [e, IntKind.wrap_i64]
  have h4 := Int.emod_nonneg n (show ((2 ^ j : Nat) : Int) ≠ 0 by omega)
  have h5 := Int.emod_lt_of_pos n (show 0 < ((2 ^ j : Nat) : Int) by omega)
  omega
theorem and_3 (n : Int) : bits .and .i64 n 3 = n % 4 := by simpa using and_mask n 2 (by omega)
theorem and_7 (n : Int) : bits .and .i64 n 7 = n % 8 := by simpa using and_mask n 3 (by omega)
theorem and_15 (n : Int) : bits .and .i64 n 15 = n % 16 := by simpa using and_mask n 4 (by omega)
theorem and_31 (n : Int) : bits .and .i64 n 31 = n % 32 := by simpa using and_mask n 5 (by omega)
end Go.Proofs.YthfnnieklkaefaaGreat

namespace Go.Proofs.YthfnnieklkaefaaGreat
open Go.RowKit
set_option linter.unusedVariables false
theorem const1 (w : World) (C : Array Value) (n c : Nat) : (convert 24 24 (.slice (some ⟨w.heap.size, 0, none⟩) n c)).run Tryz.prog (w.alloc (.cells C 5)) = .ok (.slice (some ⟨w.heap.size, 0, none⟩) n c) (w.alloc (.cells C 5 (C.size, C.size + 1))) :=
  Lib.run_convert_bytes_const (P := Tryz.prog) w 24 5 C n c Tryz.underlying24 Tryz.underlying5
end Go.Proofs.YthfnnieklkaefaaGreat

namespace Go.Proofs.YthfnnieklkaefaaGreat
open Go.RowKit
set_option linter.unusedVariables false
def PutC7 : Prop := ∀ {W w : World} {ps : List Pr} {k v : List Nat} {A A' A'' : Option Addr} {n c n' c' n'' c'' B B' B'' : Nat}, n ≤ c → Mp.Inv ps → (∀ x ∈ k, x < 256) → (∀ x ∈ v, x < 256) → n' ≤ 100000 → n'' ≤ 100000 →
    RdP w B A n ps → Rd w B' A' n' (bv k) → Rd w B'' A'' n'' (bv v) → Below W.heap.size W w →
    Calls Tryz.prog 96 #[.slice A n c, .slice A' n' c', .slice A'' n'' c''] w (GotPR W w (Mp.putS ps k v) (Mp.putE ps k v) (Mp.putV ps k v) (Mp.putN ps k v))
def GetC7 : Prop := ∀ {W w : World} {ps : List Pr} {k : List Nat} {A A' : Option Addr} {n c n' c' B B' : Nat}, n ≤ c → Mp.Inv ps → (∀ x ∈ k, x < 256) → n' ≤ 100000 →
    RdP w B A n ps → Rd w B' A' n' (bv k) → Below W.heap.size W w →
    Calls Tryz.prog 97 #[.slice A n c, .slice A' n' c'] w (GotR W w (Mp.getE ps k) (Mp.getV ps k) 0)
def DelC7 : Prop := ∀ {W w : World} {ps : List Pr} {k : List Nat} {A A' : Option Addr} {n c n' c' B B' : Nat}, n ≤ c → Mp.Inv ps → (∀ x ∈ k, x < 256) → n' ≤ 100000 →
    RdP w B A n ps → Rd w B' A' n' (bv k) → Below W.heap.size W w →
    Calls Tryz.prog 98 #[.slice A n c, .slice A' n' c'] w (GotPR W w (Mp.delS ps k) (Mp.getE ps k) (Mp.getV ps k) 0)
theorem inv_lim {ps : List Pr} (h : Mp.Inv ps) : LimP ps := fun p hp => by
  have := h.len p hp
  unfold Lim
  exact ⟨by omega, by omega⟩
theorem sb_len (s : ByteArray) : (sb s).length = s.size := by unfold sb; rw [List.length_map, Array.length_toList]; rfl
end Go.Proofs.YthfnnieklkaefaaGreat

