/- TknTok -/
import Derived.Test.YtbgagmpifaakgaaTK15
import Derived.Test.YtbgagmpifaakgaaTK42
import Derived.Test.YtbgagmpifaakgaaTK43
namespace Go.Proofs.Ytbgagmpifaakgaa
open Go.RowKit
set_option linter.unusedVariables false
theorem key17 (w : World) {B n c : Nat} {A : Option Addr} {zs : List Int} (hb : Blk w B 22 #[.slice A n c]) (hr : Rd w w.heap.size A n (iv zs)) (j : Nat) (hj : j < 100) :
    Calls Try.prog 20 #[.int .i64 j, .pointer (some ⟨B, 0, none⟩)] w fun e w' => e = .returned (.int .i64 (Tk.kN zs j)) ∧ w' = w := by
  have hl : zs.length = n := by have := hr.1; rwa [iv_length] at this
  have hc := hb.cell 0
  simp at hc
  have hj2 : IntKind.i64.wrap (j : Int) = (j : Int) := IntWalk.i64_in _ (by omega)
  have hw : IntKind.i64.wrap ((j : Int) * 37) = (j : Int) * 37 := IntWalk.i64_in _ (by omega)
  by_cases h : j < n
  · obtain ⟨z, hz⟩ : ∃ z, zs[j]? = some z := ⟨_, List.getElem?_eq_getElem (by omega)⟩
    obtain ⟨b, o, rfl, _⟩ := hr.int_at h
    have hcell := hr.int_cell h hz
    have hK : Hid (Tk.kN zs j = z) := Lib.hid (by unfold Tk.kN; rw [if_pos (by omega), List.getD_eq_getElem?_getD, hz]; rfl)
    clear hz hl
    go_enter Try.func20, Try.ntmps20
    go_wp2
    go_ret
    exact ⟨ret_int hK.out.symm, rfl⟩
  · have hK : Hid (Tk.kN zs j = (j : Int) * 37) := Lib.hid (by unfold Tk.kN; rw [if_neg (by omega)])
    clear hl
    go_enter Try.func20, Try.ntmps20
    go_wp2
    go_ret
    exact ⟨ret_int hK.out.symm, rfl⟩
/-- Token under way -/
structure TokSt (w wx : World) (B g : Nat) (A : Option Addr) (n c : Nat) (cs : Array Value) (Ah An : Option Addr) (ch cn : Nat) (zs hv nv : List Int) : Prop where
  box : Blk wx B 22 #[.slice A n c]
  res : Blk wx (B + 1) 29 msgZ
  var : Blk wx g 29 cs
  rd : Rd wx wx.heap.size A n (iv zs)
  rows : Rows2T w.heap.size wx (.slice Ah hv.length ch) (.slice An nv.length cn) hv.length nv.length (iv hv) (iv nv)
  wb : w.heap.size = B
  bg : B + 1 < g
  bel : Below w.heap.size w wx
  ol : ∃ Bo, Bo ≤ w.heap.size ∧ Rd wx Bo A n (iv zs)
theorem TokSt.below {w wx wy : World} {B g n c ch cn : Nat} {A Ah An : Option Addr} {cs : Array Value} {zs hv nv : List Int} (s : TokSt w wx B g A n c cs Ah An ch cn zs hv nv) (hb : Below wx.heap.size wx wy) : TokSt w wy B g A n c cs Ah An ch cn zs hv nv := by
  obtain ⟨Bo, h1, h2⟩ := s.ol
  exact ⟨s.box.below hb, s.res.below hb, s.var.below hb, (s.rd.below hb).fit, s.rows.below hb, s.wb, s.bg, s.bel.trans (hb.mono s.bel.size), Bo, h1, h2.below (hb.mono (Nat.le_trans h1 s.bel.size))⟩
theorem rowIT {w : World} {base n g i : Nat} {v u : Value} {xs : List Value} {t : TypeId} {cs : Array Value} (h : w.ownsRow base 3 1 v n xs) (hb : Blk w g t cs) (hne : 3 ≠ t) : (w.setCell ⟨g, i, none⟩ u).ownsRow base 3 1 v n xs := own_set_t h hb hne
theorem blk_app {w1 w2 : World} {base m b : Nat} {v : Value} {xs : List Value} {t : TypeId} {cs : Array Value} (hvo : w1.ownsRow base 3 1 v m xs) (hk : w1.grownBy w2 v.ownBlock) (hb : Blk w1 b t cs) (hn : 3 ≠ t) : Blk w2 b t cs := by
  refine hb.grown hk (fun e => ?_)
  rcases hvo.2 with ⟨h1, _⟩ | ⟨q, cap, cur, h1, _, h3, _⟩
  · rw [h1] at e; cases e
  · rw [h1] at e
    simp [Value.ownBlock] at e
    subst e
    exact hb.apart h3 (fun e2 => hn e2.symm) rfl
/-- a row grew, and the variable holds it -/
theorem TokSt.step {w w1 w2 : World} {B g n c ch cn ch' cn' i m0 : Nat} {xs0 : List Value} {A Ah An Ah' An' : Option Addr} {cs cs' : Array Value} {zs hv nv hv' nv' : List Int} {u v : Value}
    (s : TokSt w w1 B g A n c cs Ah An ch cn zs hv nv) (hB2 : Below w.heap.size w w2) (hk : w1.grownBy w2 v.ownBlock) (hvo : w1.ownsRow w.heap.size 3 1 v m0 xs0)
    (hr : Rows2T w.heap.size w2 (.slice Ah' hv'.length ch') (.slice An' nv'.length cn') hv'.length nv'.length (iv hv') (iv nv')) (hc : cs.setIfInBounds i u = cs') :
    TokSt w (w2.setCell ⟨g, i, none⟩ u) B g A n c cs' Ah' An' ch' cn' zs hv' nv' := by
  subst hc
  have hne : ∀ {b : Nat} {t : TypeId} {cc : Array Value}, Blk w1 b t cc → 3 ≠ t → Blk w2 b t cc := fun {b t cc} hb hn => by
    refine hb.grown hk (fun e => ?_)
    rcases hvo.2 with ⟨h1, _⟩ | ⟨q, cap, cur, h1, _, h3, _⟩
    · rw [h1] at e; cases e
    · rw [h1] at e
      simp [Value.ownBlock] at e
      subst e
      exact hb.apart h3 (fun e2 => hn e2.symm) rfl
  have b1 := hne s.box (by decide)
  have b2 := hne s.res (by decide)
  have b3 := hne s.var (by decide)
  have hbg := s.bg
  obtain ⟨Bo, h1, h2⟩ := s.ol
  have hgw : w.heap.size ≤ g := by have := s.wb; omega
  have hrd : Rd (w2.setCell ⟨g, i, none⟩ u) Bo A n (iv zs) := by
    have hlt := hvo.lt
    refine (h2.below (w' := w2) ?_).below (((Below.refl _ _).setCell (by show Bo ≤ g; omega) _))
    exact ((Below.refl Bo w1).grown hk (Nat.le_trans h1 s.bel.size) (fun k hk2 => Nat.le_trans h1 (hlt k hk2).1))
  exact ⟨(Below.heap_setCell w2 ⟨g, i, none⟩ u B (by show B ≠ g; omega)).trans b1, (Below.heap_setCell w2 ⟨g, i, none⟩ u (B + 1) (by show B + 1 ≠ g; omega)).trans b2, b3.set_ i u, hrd.fit, ⟨rowIT hr.a b3 (by decide), rowIT hr.b b3 (by decide), hr.ap⟩, s.wb, s.bg, hB2.setCell hgw _, Bo, h1, hrd⟩
set_option maxHeartbeats 8000000 in
set_option maxRecDepth 100000 in
theorem token17 {w : World} {A : Option Addr} {n c B0 : Nat} {zs : List Int} (h : Rd w B0 A n (iv zs)) (h0 : B0 ≤ w.heap.size) : Calls Try.prog 12 #[.slice A n c] w (GotMs w w (Tk.tok zs)) := by
  obtain ⟨B, hB⟩ : ∃ g, w.heap.size = g := ⟨_, rfl⟩
  obtain ⟨wz, hwz⟩ : ∃ wz, (w.alloc (.cells #[.slice A n c] 22)).alloc (.cells msgZ 29) = wz := ⟨_, rfl⟩
  have hbz : Below w.heap.size w wz := by rw [← hwz]; exact ((Below.refl _ _).alloc (Nat.le_refl _) _).alloc (by simp) _
  have hbk : Blk wz B 22 #[.slice A n c] ∧ Blk wz (B + 1) 29 msgZ := by
    subst hB
    rw [← hwz]
    refine ⟨(Blk.new _ _ _).alloc _, ?_⟩
    have := Blk.new (w.alloc (.cells #[.slice A n c] 22)) 29 msgZ
    rwa [World.size_alloc] at this
  have hsz : wz.heap.size = B + 2 := by rw [← hwz, ← hB]; simp
  have HR0 := Lib.hid (And.intro h0 (h.below (hbz.mono h0)))
  have HK := Lib.hid (fun j hj => key17 wz hbk.1 (h.below (hbz.mono h0)).fit j hj)
  have HBK := Lib.hid hbk
  have HBZ := Lib.hid hbz
  have HWZ := Lib.hid hwz
  have HW := Lib.hid hB
  have HSZ := Lib.hid hsz
  unfold msgZ at HWZ
  obtain ⟨K0, hK0⟩ : ∃ x, Tk.kN zs 0 = x := ⟨_, rfl⟩
  obtain ⟨K1, hK1⟩ : ∃ x, Tk.kN zs 1 = x := ⟨_, rfl⟩
  obtain ⟨K2, hK2⟩ : ∃ x, Tk.kN zs 2 = x := ⟨_, rfl⟩
  have C0 := Lib.hid (show Calls Try.prog 20 #[.int .i64 0, .pointer (some ⟨B, 0, none⟩)] wz (fun e w' => e = .returned (.int .i64 (Tk.kN zs 0)) ∧ w' = wz) from HK.out 0 (by omega))
  have C1 := Lib.hid (show Calls Try.prog 20 #[.int .i64 1, .pointer (some ⟨B, 0, none⟩)] wz (fun e w' => e = .returned (.int .i64 (Tk.kN zs 1)) ∧ w' = wz) from HK.out 1 (by omega))
  rw [hK0] at C0
  rw [hK1] at C1
  have a1 := and_3 K0
  have a2 := and_3 (K0 / 4)
  have a3 := and_255 (K0 / 16)
  have a4 : bits .and .i64 K1 4095 = K1 % 4096 := by simpa using and_mask K1 12 (by omega)
  have a5 := and_63 (K1 / 4096)
  obtain ⟨F0, hF0⟩ : ∃ x, K0 % 4 = x := ⟨_, rfl⟩
  obtain ⟨F1, hF1⟩ : ∃ x, K0 / 4 % 4 = x := ⟨_, rfl⟩
  obtain ⟨F2, hF2⟩ : ∃ x, K0 / 16 % 256 = x := ⟨_, rfl⟩
  obtain ⟨F3, hF3⟩ : ∃ x, K1 % 4096 = x := ⟨_, rfl⟩
  obtain ⟨F4, hF4⟩ : ∃ x, K1 / 4096 % 64 = x := ⟨_, rfl⟩
  have HF4 : Hid (0 ≤ F4 ∧ F4 ≤ 63) := Lib.hid (by omega)
  rw [hF0] at a1; rw [hF1] at a2; rw [hF2] at a3; rw [hF3] at a4; rw [hF4] at a5
  have HT : Hid (Tk.tok zs = { Mg.zero with kind := 7, frm := F0, dst := F1, view := F2, hop := F3, seq := F4, hav := Tk.tHavs zs (Tk.nHav zs), nee := Tk.tNees zs (Tk.nNee zs) }) := Lib.hid (by
    rw [← hF0, ← hF1, ← hF2, ← hF3, ← hF4, ← hK0, ← hK1]; rfl)
  have HS4 : Hid (Tk.tSeq zs = F4) := Lib.hid (by rw [← hF4, ← hK1]; rfl)
  have hN1 : K2 % 8 = (Tk.nHav zs : Int) := by unfold Tk.nHav; rw [hK2]; omega
  have hN2 : K2 / 8 % 8 = (Tk.nNee zs : Int) := by unfold Tk.nNee; rw [hK2]; omega
  have b1 := and_7 K2
  have b2 := and_7 (K2 / 8)
  rw [hN1] at b1; rw [hN2] at b2
  obtain ⟨N1, hn1⟩ : ∃ x, Tk.nHav zs = x := ⟨_, rfl⟩
  obtain ⟨N2, hn2⟩ : ∃ x, Tk.nNee zs = x := ⟨_, rfl⟩
  have h71 : N1 ≤ 7 := by rw [← hn1]; unfold Tk.nHav; omega
  have h72 : N2 ≤ 7 := by rw [← hn2]; unfold Tk.nNee; omega
  rw [hn1] at b1 HT; rw [hn2] at b2 HT
  have HK2 := Lib.hid hK2
  clear h h0 hbz hbk hwz hB hsz hK0 hK1 hK2 hF0 hF1 hF2 hF3 hF4 hN1 hN2 hn1 hn2
  go_enter Try.func12, Try.ntmps12
  go_upto_region 1 with fail
  rw [HW.out, HWZ.out]
  clear HWZ
  go_upto_region 3 with (first
    | (go_at_call 20; first
        | (with_reducible refine C0.out.mono ?_; rintro e x1 ⟨rfl, hx1⟩; rw [hx1]; clear hx1)
        | (with_reducible refine C1.out.mono ?_; rintro e x1 ⟨rfl, hx1⟩; rw [hx1]; clear hx1))
    | (refine wpList_store_row rfl 29 (.tmp 4) (.tmp 26) rfl wz.heap.size #[.int .i64 7, .int .i64 F0, .int .i64 F1, .int .i64 F2, .int .i64 0, .int .i64 0, .bool false, .int .i64 0, .int .i64 0, .int .i64 0, .int .i64 0, .slice none 0 0, .int .i64 F3, .int .i64 F4, .slice none 0 0, .slice none 0 0, .int .i64 0, .int .i64 0, .int .i64 0, .int .i64 0, .int .i64 0, .slice none 0 0, .slice none 0 0, .slice none 0 0] rfl rfl 29 #[.int .i64 0, .int .i64 0, .int .i64 0, .int .i64 0, .int .i64 0, .int .i64 0, .bool false, .int .i64 0, .int .i64 0, .int .i64 0, .int .i64 0, .slice none 0 0, .int .i64 0, .int .i64 0, .slice none 0 0, .slice none 0 0, .int .i64 0, .int .i64 0, .int .i64 0, .int .i64 0, .int .i64 0, .slice none 0 0, .slice none 0 0, .slice none 0 0] (Blk.new wz 29 #[.int .i64 0, .int .i64 0, .int .i64 0, .int .i64 0, .int .i64 0, .int .i64 0, .bool false, .int .i64 0, .int .i64 0, .int .i64 0, .int .i64 0, .slice none 0 0, .int .i64 0, .int .i64 0, .slice none 0 0, .slice none 0 0, .int .i64 0, .int .i64 0, .int .i64 0, .int .i64 0, .int .i64 0, .slice none 0 0, .slice none 0 0, .slice none 0 0]) (by kernel_rfl) rfl (by kernel_rfl) ?_)
    | fail)
  obtain ⟨g, w1, hgE, hwE, hbE, hkE⟩ := boxed wz #[.int .i64 0, .int .i64 0, .int .i64 0, .int .i64 0, .int .i64 0, .int .i64 0, .bool false, .int .i64 0, .int .i64 0, .int .i64 0, .int .i64 0, .slice none 0 0, .int .i64 0, .int .i64 0, .slice none 0 0, .slice none 0 0, .int .i64 0, .int .i64 0, .int .i64 0, .int .i64 0, .int .i64 0, .slice none 0 0, .slice none 0 0, .slice none 0 0] #[.int .i64 7, .int .i64 F0, .int .i64 F1, .int .i64 F2, .int .i64 0, .int .i64 0, .bool false, .int .i64 0, .int .i64 0, .int .i64 0, .int .i64 0, .slice none 0 0, .int .i64 F3, .int .i64 F4, .slice none 0 0, .slice none 0 0, .int .i64 0, .int .i64 0, .int .i64 0, .int .i64 0, .int .i64 0, .slice none 0 0, .slice none 0 0, .slice none 0 0] 29
  try rw [hgE, hwE]
  have HS : Hid (TokSt w w1 B g A n c #[.int .i64 7, .int .i64 F0, .int .i64 F1, .int .i64 F2, .int .i64 0, .int .i64 0, .bool false, .int .i64 0, .int .i64 0, .int .i64 0, .int .i64 0, .slice none 0 0, .int .i64 F3, .int .i64 F4, .slice none 0 0, .slice none 0 0, .int .i64 0, .int .i64 0, .int .i64 0, .int .i64 0, .int .i64 0, .slice none 0 0, .slice none 0 0, .slice none 0 0] none none 0 0 zs [] []) := Lib.hid ⟨HBK.out.1.below hbE, HBK.out.2.below hbE, hkE, ((HR0.out.2.below (hbE.mono (Nat.le_trans HR0.out.1 HBZ.out.size))).fit), ⟨⟨rfl, .inl ⟨rfl, rfl⟩⟩, ⟨rfl, .inl ⟨rfl, rfl⟩⟩, .inl rfl⟩, HW.out, by rw [← hgE, HSZ.out]; omega, HBZ.out.trans (hbE.mono HBZ.out.size), B0, HR0.out.1, HR0.out.2.below (hbE.mono (Nat.le_trans HR0.out.1 HBZ.out.size))⟩
  clear hgE hwE hbE hkE HBK HBZ HSZ C0 C1 a1 a2 a3 a4 a5 HK
  go_wp2_with fail
  go_loopw [5] (fun s5 wr => ∃ (i : Nat) (Ah : Option Addr) (ch : Nat) (hv : List Int), s5 = .int .i64 (i : Int) ∧ i ≤ N1 ∧ Hid (hv = Tk.tHavs zs i) ∧ Hid (TokSt w wr B g A n c #[.int .i64 7, .int .i64 F0, .int .i64 F1, .int .i64 F2, .int .i64 0, .int .i64 0, .bool false, .int .i64 0, .int .i64 0, .int .i64 0, .int .i64 0, .slice none 0 0, .int .i64 F3, .int .i64 F4, .slice Ah hv.length ch, .slice none 0 0, .int .i64 0, .int .i64 0, .int .i64 0, .int .i64 0, .int .i64 0, .slice none 0 0, .slice none 0 0, .slice none 0 0] Ah none ch 0 zs hv [])) (fun s5 _ => (N1 - intOf s5).toNat)
  case atStart => exact ⟨0, none, 0, [], rfl, by omega, Lib.hid rfl, HS⟩
  case round =>
    clear HS
    obtain ⟨i, Ah, ch, hv, rfl, hi, HV, HS⟩ := hrel
    have CK := Lib.hid (show Calls Try.prog 20 #[.int .i64 2, .pointer (some ⟨B, 0, none⟩)] wr (fun e w' => e = .returned (.int .i64 (Tk.kN zs 2)) ∧ w' = wr) from key17 wr HS.out.box HS.out.rd 2 (by omega))
    rw [HK2.out] at CK
    by_cases hlt : i < N1
    · have hlt' : (i : Int) < (N1 : Int) := by omega
      obtain ⟨ki, hki⟩ : ∃ x, Tk.kN zs (i + 3) = x := ⟨_, rfl⟩
      have HKI := Lib.hid hki
      have a15 := and_15 ki
      obtain ⟨mx, hmx⟩ : ∃ x, max (F4 - ki % 16) 0 = x := ⟨_, rfl⟩
      have hq := HF4.out
      have hw1 : wrap64 (F4 - ki % 16) = F4 - ki % 16 := IntWalk.wrap64_in _ (by omega)
      have hw2 : IntKind.i64.wrap (F4 - ki % 16) = F4 - ki % 16 := IntWalk.i64_in _ (by omega)
      have hw3 : IntKind.i64.wrap ((i : Int) + 3) = ((i + 3 : Nat) : Int) := by rw [IntWalk.i64_in _ (by omega)]; omega
      have hmax : ∀ ts t (w : World), (Builtin.max_ ts t #[.int .i64 (F4 - ki % 16), .int .i64 0]).run Try.prog w = .ok (.int .i64 mx) w := fun ts t w => by rw [run_max_int2]; congr 2; split <;> omega
      have HMX : Hid (Tk.tHav zs i = mx) := Lib.hid (by unfold Tk.tHav; rw [hki, HS4.out]; exact hmx)
      have HLN : Hid (hv.length ≤ 7) := Lib.hid (by have := HV.out; subst this; rw [Tk.tHavs_len]; omega)
      have hwi : IntKind.i64.wrap ((i : Int) + 1) = (i : Int) + 1 := IntWalk.i64_in _ (by omega)
      clear hki hmx hq
      go_wp2_with fail
      refine CK.out.mono ?_
      rintro e x3 ⟨rfl, hx3⟩
      rw [hx3]
      clear hx3
      go_upto_region 6 with fail
      refine region_T (n := 14) (S := fun w' => Blk w' g 29 #[.int .i64 7, .int .i64 F0, .int .i64 F1, .int .i64 F2, .int .i64 0, .int .i64 0, .bool false, .int .i64 0, .int .i64 0, .int .i64 0, .int .i64 0, .slice none 0 0, .int .i64 F3, .int .i64 F4, .slice Ah hv.length ch, .slice none 0 0, .int .i64 0, .int .i64 0, .int .i64 0, .int .i64 0, .int .i64 0, .slice none 0 0, .slice none 0 0, .slice none 0 0]) (by kernel_rfl) ?_
      have HS4x := Lib.hid (HS.out.below (Below.refl wr.heap.size wr).drew)
      generalize wr.drew = x4 at HS4x ⊢
      have hS := Lib.hid HS4x.out.var
      refine AnyT.takeP [12, 1, 0] (i := 0) (v := .pointer (some ⟨g, 14, none⟩)) rfl (by kernel_rfl) (by kernel_rfl) (by kernel_rfl) (by kernel_rfl) (by kernel_rfl) (by kernel_rfl) (fun _ _ _ h => h) (Or.inl ⟨by kernel_rfl, fun w _ => by go_simp⟩) hS.out ?_
      refine AnyT.takeP [12, 11, 10, 9, 3, 2] (i := 2) (v := .pointer (some ⟨g, 13, none⟩)) rfl (by kernel_rfl) (by kernel_rfl) (by kernel_rfl) (by kernel_rfl) (by kernel_rfl) (by kernel_rfl) (fun _ _ _ h => h) (Or.inl ⟨by kernel_rfl, fun w _ => by go_simp⟩) hS.out ?_
      refine AnyT.takeP [12, 7, 4] (i := 4) (v := .func (.func 20) #[] #[.pointer (some ⟨B, 0, none⟩)]) rfl (by kernel_rfl) (by kernel_rfl) (by kernel_rfl) (by kernel_rfl) (by kernel_rfl) (by kernel_rfl) (fun _ _ _ h => h) (Or.inl ⟨by kernel_rfl, fun w _ => by go_simp⟩) hS.out ?_
      refine AnyT.takeP [12, 7, 6, 5] (i := 5) (v := .int .i64 (i : Int)) rfl (by kernel_rfl) (by kernel_rfl) (by kernel_rfl) (by kernel_rfl) (by kernel_rfl) (by kernel_rfl) (fun _ _ _ h => h) (Or.inl ⟨by kernel_rfl, fun w _ => by go_simp⟩) hS.out ?_
      refine AnyT.takeP [12, 7, 6] (i := 6) (v := .int .i64 ((i + 3 : Nat) : Int)) rfl (by kernel_rfl) (by kernel_rfl) (by kernel_rfl) (by kernel_rfl) (by kernel_rfl) (by kernel_rfl) (fun _ _ _ h => h) (Or.inl ⟨by kernel_rfl, fun w _ => by go_simp⟩) hS.out ?_
      refine AnyT.takeP [12, 1] (i := 1) (v := .slice Ah hv.length ch) rfl (by kernel_rfl) (by kernel_rfl) (by kernel_rfl) (by kernel_rfl) (by kernel_rfl) (by kernel_rfl) (fun _ _ _ h => h) (Or.inl ⟨by kernel_rfl, fun wq hq => by have qq := Blk.cell hq 14; simp at qq; go_simp⟩) hS.out ?_
      refine AnyT.takeP [12, 11, 10, 9, 3] (i := 3) (v := .int .i64 F4) rfl (by kernel_rfl) (by kernel_rfl) (by kernel_rfl) (by kernel_rfl) (by kernel_rfl) (by kernel_rfl) (fun _ _ _ h => h) (Or.inl ⟨by kernel_rfl, fun wq hq => by have qq := Blk.cell hq 13; simp at qq; go_simp⟩) hS.out ?_
      refine AnyT.ready (rs := [7]) (by kernel_rfl) (by simp) ?_
      refine AllT.cons rfl (fun K hK => ?_) AllT.nil
      go_simp
      refine (key17 x4 HS4x.out.box HS4x.out.rd (i + 3) (by omega)).mono ?_
      rintro e x5 ⟨rfl, hx5⟩
      rw [hx5, HKI.out]
      clear hx5
      go_simp
      refine hK.out _ _ (Or.inr hS.out) (fun _ => ?_)
      clear hK K
      refine AnyT.ready (rs := [8]) (by kernel_rfl) (by simp) ?_
      refine AllT.cons rfl (fun K hK => ?_) AllT.nil
      go_simp
      refine hK.out _ _ (Or.inr hS.out) (fun _ => ?_)
      clear hK K
      refine AnyT.ready (rs := [9]) (by kernel_rfl) (by simp) ?_
      refine AllT.cons rfl (fun K hK => ?_) AllT.nil
      go_simp
      refine hK.out _ _ (Or.inr hS.out) (fun _ => ?_)
      clear hK K
      refine AnyT.ready (rs := [10]) (by kernel_rfl) (by simp) ?_
      refine AllT.cons rfl (fun K hK => ?_) AllT.nil
      go_simp
      refine hK.out _ _ (Or.inr hS.out) (fun _ => ?_)
      clear hK K
      refine AnyT.ready (rs := [11]) (by kernel_rfl) (by simp) ?_
      refine AllT.cons rfl (fun K hK => ?_) AllT.nil
      go_simp
      refine hK.out _ _ (Or.inr (hS.out.alloc _)) (fun _ => ?_)
      clear hK K
      have HS6 := Lib.hid (HS4x.out.below ((Below.refl _ _).alloc (Nat.le_refl _) (.cells #[.int .i64 mx] 3)))
      have HR6 : Hid (Rd (x4.alloc (.cells #[.int .i64 mx] 3)) (x4.alloc (.cells #[.int .i64 mx] 3)).heap.size (some ⟨x4.heap.size, 0, none⟩) 1 (iv [mx])) := Lib.hid (rd_new x4 [mx] #[.int .i64 mx] rfl)
      obtain ⟨q6, hq6⟩ : ∃ q, x4.heap.size = q := ⟨_, rfl⟩
      obtain ⟨x6, hx6⟩ : ∃ y, x4.alloc (.cells #[.int .i64 mx] 3) = y := ⟨_, rfl⟩
      rw [hx6] at HS6 HR6
      rw [hq6] at HR6
      rw [hq6, hx6]
      clear hq6 hx6 hS HS4x
      refine AnyT.ready (rs := [12]) (by kernel_rfl) (by simp) ?_
      refine AllT.cons rfl (fun K hK => ?_) AllT.nil
      rw [if_pos (by kernel_rfl)]
      refine wp_append_cells2T (W := w) (c' := 1) cellI (.tmp 35) (.tmp 45) rfl (by kernel_rfl) HS6.out.rows.a (by kernel_rfl) HR6.out (iv_one [mx]) (by have := HLN.out; omega) (by omega) HS6.out.bel ?_
      intro A9 c9 w9 hown9 hB9 hg9 hblk9
      have hS := Lib.hid (blk_app HS6.out.rows.a hg9 HS6.out.var (by decide))
      have HF := Lib.hid (HS6.out.step (i := 14) (Ah' := A9) (An' := none) (ch' := c9) (cn' := 0) (hv' := hv ++ [mx]) (nv' := []) (u := .slice A9 (hv.length + 1) c9) (cs' := #[.int .i64 7, .int .i64 F0, .int .i64 F1, .int .i64 F2, .int .i64 0, .int .i64 0, .bool false, .int .i64 0, .int .i64 0, .int .i64 0, .int .i64 0, .slice none 0 0, .int .i64 F3, .int .i64 F4, .slice A9 (hv ++ [mx]).length c9, .slice none 0 0, .int .i64 0, .int .i64 0, .int .i64 0, .int .i64 0, .int .i64 0, .slice none 0 0, .slice none 0 0, .slice none 0 0]) hB9 hg9 HS6.out.rows.a ?_ ?_)
      rotate_left
      · have := HS6.out.rows.grow (xs' := iv (hv ++ [mx])) (by rw [iv_snoc17]; exact hown9) hg9 hblk9; rw [List.length_append]; exact this
      · rw [List.length_append]; rfl
      clear hown9 hB9 hg9 hblk9
      go_simp
      refine hK.out _ _ (Or.inr hS.out) (fun _ => ?_)
      clear hK K
      refine AnyT.take (i := 13) (v := .pointer (some ⟨g, 14, none⟩)) rfl (by kernel_rfl) (by kernel_rfl) (by kernel_rfl) (by kernel_rfl) (fun _ _ _ h => h) (Or.inl ⟨by kernel_rfl, fun w _ => by go_simp⟩) hS.out ?_
      refine AnyT.ready (rs := [14]) (by kernel_rfl) (by simp) ?_
      refine AllT.cons rfl (fun K hK => ?_) AllT.nil
      have qq := Blk.cell hS.out 14
      have qf := Blk.frozen hS.out 14
      simp at qq
      go_simp
      refine hK.out _ _ (Or.inl rfl) (fun _ => ?_)
      clear hK K qq qf
      refine AnyT.done (by kernel_rfl) ?_ _
      go_simp
      go_wp2_with fail
      go_roundw
      case rel => exact ⟨i + 1, A9, c9, hv ++ [mx], by go_num, by omega, Lib.hid (by rw [HV.out, Tk.tHavs_succ, HMX.out]), HF⟩
      case measure => simp [intOf]; omega
    · obtain rfl : i = N1 := by omega
      have HH : Hid (hv.length = i) := Lib.hid (by have := HV.out; subst this; exact Tk.tHavs_len _ _)
      go_wp2_with fail
      refine CK.out.mono ?_
      rintro e x3 ⟨rfl, hx3⟩
      rw [hx3]
      clear hx3 CK
      go_wp2_with fail
      go_loopw [6] (fun s6 wr => ∃ (i : Nat) (An : Option Addr) (cn : Nat) (nv : List Int), s6 = .int .i64 (i : Int) ∧ i ≤ N2 ∧ Hid (nv = Tk.tNees zs i) ∧ Hid (TokSt w wr B g A n c #[.int .i64 7, .int .i64 F0, .int .i64 F1, .int .i64 F2, .int .i64 0, .int .i64 0, .bool false, .int .i64 0, .int .i64 0, .int .i64 0, .int .i64 0, .slice none 0 0, .int .i64 F3, .int .i64 F4, .slice Ah hv.length ch, .slice An nv.length cn, .int .i64 0, .int .i64 0, .int .i64 0, .int .i64 0, .int .i64 0, .slice none 0 0, .slice none 0 0, .slice none 0 0] Ah An ch cn zs hv nv)) (fun s6 _ => (N2 - intOf s6).toNat)
      case atStart => exact ⟨0, none, 0, [], rfl, by omega, Lib.hid rfl, HS⟩
      case round =>
        clear HS
        obtain ⟨i, An, cn, nv, rfl, hi2, HV2, HS⟩ := hrel
        have CK := Lib.hid (show Calls Try.prog 20 #[.int .i64 2, .pointer (some ⟨B, 0, none⟩)] wr (fun e w' => e = .returned (.int .i64 (Tk.kN zs 2)) ∧ w' = wr) from key17 wr HS.out.box HS.out.rd 2 (by omega))
        rw [HK2.out] at CK
        by_cases hlt2 : i < N2
        · have hlt2' : (i : Int) < (N2 : Int) := by omega
          obtain ⟨ki, hki⟩ : ∃ x, Tk.kN zs (i + 3) = x := ⟨_, rfl⟩
          have HKI := Lib.hid hki
          have a15 := and_15 (ki / 16)
          obtain ⟨mx, hmx⟩ : ∃ x, max (F4 - ki / 16 % 16) 0 = x := ⟨_, rfl⟩
          have hq := HF4.out
          have hw1 : wrap64 (F4 - ki / 16 % 16) = F4 - ki / 16 % 16 := IntWalk.wrap64_in _ (by omega)
          have hw2 : IntKind.i64.wrap (F4 - ki / 16 % 16) = F4 - ki / 16 % 16 := IntWalk.i64_in _ (by omega)
          have hw3 : IntKind.i64.wrap ((i : Int) + 3) = ((i + 3 : Nat) : Int) := by rw [IntWalk.i64_in _ (by omega)]; omega
          have hmax : ∀ ts t (w : World), (Builtin.max_ ts t #[.int .i64 (F4 - ki / 16 % 16), .int .i64 0]).run Try.prog w = .ok (.int .i64 mx) w := fun ts t w => by rw [run_max_int2]; congr 2; split <;> omega
          have HMX : Hid (Tk.tNee zs i = mx) := Lib.hid (by unfold Tk.tNee; rw [hki, HS4.out]; exact hmx)
          have HLN : Hid (nv.length ≤ 7) := Lib.hid (by have := HV2.out; subst this; rw [Tk.tNees_len]; omega)
          have hwi : IntKind.i64.wrap ((i : Int) + 1) = (i : Int) + 1 := IntWalk.i64_in _ (by omega)
          clear hki hmx hq
          go_wp2_with fail
          refine CK.out.mono ?_
          rintro e x3 ⟨rfl, hx3⟩
          rw [hx3]
          clear hx3
          go_upto_region 10 with fail
          refine region_T (n := 15) (S := fun w' => Blk w' g 29 #[.int .i64 7, .int .i64 F0, .int .i64 F1, .int .i64 F2, .int .i64 0, .int .i64 0, .bool false, .int .i64 0, .int .i64 0, .int .i64 0, .int .i64 0, .slice none 0 0, .int .i64 F3, .int .i64 F4, .slice Ah hv.length ch, .slice An nv.length cn, .int .i64 0, .int .i64 0, .int .i64 0, .int .i64 0, .int .i64 0, .slice none 0 0, .slice none 0 0, .slice none 0 0]) (by kernel_rfl) ?_
          have HS4x := Lib.hid (HS.out.below (Below.refl wr.heap.size wr).drew)
          generalize wr.drew = x4 at HS4x ⊢
          have hS := Lib.hid HS4x.out.var
          refine AnyT.takeP [13, 1, 0] (i := 0) (v := .pointer (some ⟨g, 15, none⟩)) rfl (by kernel_rfl) (by kernel_rfl) (by kernel_rfl) (by kernel_rfl) (by kernel_rfl) (by kernel_rfl) (fun _ _ _ h => h) (Or.inl ⟨by kernel_rfl, fun w _ => by go_simp⟩) hS.out ?_
          refine AnyT.takeP [13, 12, 11, 10, 3, 2] (i := 2) (v := .pointer (some ⟨g, 13, none⟩)) rfl (by kernel_rfl) (by kernel_rfl) (by kernel_rfl) (by kernel_rfl) (by kernel_rfl) (by kernel_rfl) (fun _ _ _ h => h) (Or.inl ⟨by kernel_rfl, fun w _ => by go_simp⟩) hS.out ?_
          refine AnyT.takeP [13, 7, 4] (i := 4) (v := .func (.func 20) #[] #[.pointer (some ⟨B, 0, none⟩)]) rfl (by kernel_rfl) (by kernel_rfl) (by kernel_rfl) (by kernel_rfl) (by kernel_rfl) (by kernel_rfl) (fun _ _ _ h => h) (Or.inl ⟨by kernel_rfl, fun w _ => by go_simp⟩) hS.out ?_
          refine AnyT.takeP [13, 7, 6, 5] (i := 5) (v := .int .i64 (i : Int)) rfl (by kernel_rfl) (by kernel_rfl) (by kernel_rfl) (by kernel_rfl) (by kernel_rfl) (by kernel_rfl) (fun _ _ _ h => h) (Or.inl ⟨by kernel_rfl, fun w _ => by go_simp⟩) hS.out ?_
          refine AnyT.takeP [13, 7, 6] (i := 6) (v := .int .i64 ((i + 3 : Nat) : Int)) rfl (by kernel_rfl) (by kernel_rfl) (by kernel_rfl) (by kernel_rfl) (by kernel_rfl) (by kernel_rfl) (fun _ _ _ h => h) (Or.inl ⟨by kernel_rfl, fun w _ => by go_simp⟩) hS.out ?_
          refine AnyT.takeP [13, 1] (i := 1) (v := .slice An nv.length cn) rfl (by kernel_rfl) (by kernel_rfl) (by kernel_rfl) (by kernel_rfl) (by kernel_rfl) (by kernel_rfl) (fun _ _ _ h => h) (Or.inl ⟨by kernel_rfl, fun wq hq => by have qq := Blk.cell hq 15; simp at qq; go_simp⟩) hS.out ?_
          refine AnyT.takeP [13, 12, 11, 10, 3] (i := 3) (v := .int .i64 F4) rfl (by kernel_rfl) (by kernel_rfl) (by kernel_rfl) (by kernel_rfl) (by kernel_rfl) (by kernel_rfl) (fun _ _ _ h => h) (Or.inl ⟨by kernel_rfl, fun wq hq => by have qq := Blk.cell hq 13; simp at qq; go_simp⟩) hS.out ?_
          refine AnyT.ready (rs := [7]) (by kernel_rfl) (by simp) ?_
          refine AllT.cons rfl (fun K hK => ?_) AllT.nil
          go_simp
          refine (key17 x4 HS4x.out.box HS4x.out.rd (i + 3) (by omega)).mono ?_
          rintro e x5 ⟨rfl, hx5⟩
          rw [hx5, HKI.out]
          clear hx5
          go_simp
          refine hK.out _ _ (Or.inr hS.out) (fun _ => ?_)
          clear hK K
          refine AnyT.ready (rs := [8]) (by kernel_rfl) (by simp) ?_
          refine AllT.cons rfl (fun K hK => ?_) AllT.nil
          go_simp
          refine hK.out _ _ (Or.inr hS.out) (fun _ => ?_)
          clear hK K
          refine AnyT.ready (rs := [9]) (by kernel_rfl) (by simp) ?_
          refine AllT.cons rfl (fun K hK => ?_) AllT.nil
          go_simp
          refine hK.out _ _ (Or.inr hS.out) (fun _ => ?_)
          clear hK K
          refine AnyT.ready (rs := [10]) (by kernel_rfl) (by simp) ?_
          refine AllT.cons rfl (fun K hK => ?_) AllT.nil
          go_simp
          refine hK.out _ _ (Or.inr hS.out) (fun _ => ?_)
          clear hK K
          refine AnyT.ready (rs := [11]) (by kernel_rfl) (by simp) ?_
          refine AllT.cons rfl (fun K hK => ?_) AllT.nil
          go_simp
          refine hK.out _ _ (Or.inr hS.out) (fun _ => ?_)
          clear hK K
          refine AnyT.ready (rs := [12]) (by kernel_rfl) (by simp) ?_
          refine AllT.cons rfl (fun K hK => ?_) AllT.nil
          go_simp
          refine hK.out _ _ (Or.inr (hS.out.alloc _)) (fun _ => ?_)
          clear hK K
          have HS6 := Lib.hid (HS4x.out.below ((Below.refl _ _).alloc (Nat.le_refl _) (.cells #[.int .i64 mx] 3)))
          have HR6 : Hid (Rd (x4.alloc (.cells #[.int .i64 mx] 3)) (x4.alloc (.cells #[.int .i64 mx] 3)).heap.size (some ⟨x4.heap.size, 0, none⟩) 1 (iv [mx])) := Lib.hid (rd_new x4 [mx] #[.int .i64 mx] rfl)
          obtain ⟨q6, hq6⟩ : ∃ q, x4.heap.size = q := ⟨_, rfl⟩
          obtain ⟨x6, hx6⟩ : ∃ y, x4.alloc (.cells #[.int .i64 mx] 3) = y := ⟨_, rfl⟩
          rw [hx6] at HS6 HR6
          rw [hq6] at HR6
          rw [hq6, hx6]
          clear hq6 hx6 hS HS4x
          refine AnyT.ready (rs := [13]) (by kernel_rfl) (by simp) ?_
          refine AllT.cons rfl (fun K hK => ?_) AllT.nil
          rw [if_pos (by kernel_rfl)]
          refine wp_append_cells2T (W := w) (c' := 1) cellI (.tmp 57) (.tmp 68) rfl (by kernel_rfl) HS6.out.rows.b (by kernel_rfl) HR6.out (iv_one [mx]) (by have := HLN.out; omega) (by omega) HS6.out.bel ?_
          intro A9 c9 w9 hown9 hB9 hg9 hblk9
          have hS := Lib.hid (blk_app HS6.out.rows.b hg9 HS6.out.var (by decide))
          have HF := Lib.hid (HS6.out.step (i := 15) (Ah' := Ah) (An' := A9) (ch' := ch) (cn' := c9) (hv' := hv) (nv' := nv ++ [mx]) (u := .slice A9 (nv.length + 1) c9) (cs' := #[.int .i64 7, .int .i64 F0, .int .i64 F1, .int .i64 F2, .int .i64 0, .int .i64 0, .bool false, .int .i64 0, .int .i64 0, .int .i64 0, .int .i64 0, .slice none 0 0, .int .i64 F3, .int .i64 F4, .slice Ah hv.length ch, .slice A9 (nv ++ [mx]).length c9, .int .i64 0, .int .i64 0, .int .i64 0, .int .i64 0, .int .i64 0, .slice none 0 0, .slice none 0 0, .slice none 0 0]) hB9 hg9 HS6.out.rows.b ?_ ?_)
          rotate_left
          · have := (HS6.out.rows.swap.grow (xs' := iv (nv ++ [mx])) (by rw [iv_snoc17]; exact hown9) hg9 hblk9).swap; rw [List.length_append]; exact this
          · rw [List.length_append]; rfl
          clear hown9 hB9 hg9 hblk9
          go_simp
          refine hK.out _ _ (Or.inr hS.out) (fun _ => ?_)
          clear hK K
          refine AnyT.take (i := 14) (v := .pointer (some ⟨g, 15, none⟩)) rfl (by kernel_rfl) (by kernel_rfl) (by kernel_rfl) (by kernel_rfl) (fun _ _ _ h => h) (Or.inl ⟨by kernel_rfl, fun w _ => by go_simp⟩) hS.out ?_
          refine AnyT.ready (rs := [15]) (by kernel_rfl) (by simp) ?_
          refine AllT.cons rfl (fun K hK => ?_) AllT.nil
          have qq := Blk.cell hS.out 15
          have qf := Blk.frozen hS.out 15
          simp at qq
          go_simp
          refine hK.out _ _ (Or.inl rfl) (fun _ => ?_)
          clear hK K qq qf
          refine AnyT.done (by kernel_rfl) ?_ _
          go_simp
          go_wp2_with fail
          go_roundw
          case rel => exact ⟨i + 1, A9, c9, nv ++ [mx], by go_num, by omega, Lib.hid (by rw [HV2.out, Tk.tNees_succ, HMX.out]), HF⟩
          case measure => simp [intOf]; omega
        · obtain rfl : i = N2 := by omega
          go_wp2_with fail
          refine CK.out.mono ?_
          rintro e x3 ⟨rfl, hx3⟩
          rw [hx3]
          clear hx3 CK
          go_wp2_with (first
            | (refine wpList_load_row rfl 29 (.tmp 4) rfl g rfl 29 #[.int .i64 7, .int .i64 F0, .int .i64 F1, .int .i64 F2, .int .i64 0, .int .i64 0, .bool false, .int .i64 0, .int .i64 0, .int .i64 0, .int .i64 0, .slice none 0 0, .int .i64 F3, .int .i64 F4, .slice Ah hv.length ch, .slice An nv.length cn, .int .i64 0, .int .i64 0, .int .i64 0, .int .i64 0, .int .i64 0, .slice none 0 0, .slice none 0 0, .slice none 0 0] (0, 0) _ HS.out.var Try.underlying29 rfl (by kernel_rfl) ?_)
            | (refine wpList_store_row rfl 29 (.tmp 2) (.tmp 71) rfl (B + 1) #[.int .i64 7, .int .i64 F0, .int .i64 F1, .int .i64 F2, .int .i64 0, .int .i64 0, .bool false, .int .i64 0, .int .i64 0, .int .i64 0, .int .i64 0, .slice none 0 0, .int .i64 F3, .int .i64 F4, .slice Ah hv.length ch, .slice An nv.length cn, .int .i64 0, .int .i64 0, .int .i64 0, .int .i64 0, .int .i64 0, .slice none 0 0, .slice none 0 0, .slice none 0 0] rfl rfl 29 #[.int .i64 0, .int .i64 0, .int .i64 0, .int .i64 0, .int .i64 0, .int .i64 0, .bool false, .int .i64 0, .int .i64 0, .int .i64 0, .int .i64 0, .slice none 0 0, .int .i64 0, .int .i64 0, .slice none 0 0, .slice none 0 0, .int .i64 0, .int .i64 0, .int .i64 0, .int .i64 0, .int .i64 0, .slice none 0 0, .slice none 0 0, .slice none 0 0] HS.out.res (by kernel_rfl) rfl (by kernel_rfl) ?_)
            | fail)
          refine bodyPost_ret (results_cell_row rfl _ _ _ _ _ _ _ rfl (Blk.row HS.out.res #[.int .i64 7, .int .i64 F0, .int .i64 F1, .int .i64 F2, .int .i64 0, .int .i64 0, .bool false, .int .i64 0, .int .i64 0, .int .i64 0, .int .i64 0, .slice none 0 0, .int .i64 F3, .int .i64 F4, .slice Ah hv.length ch, .slice An nv.length cn, .int .i64 0, .int .i64 0, .int .i64 0, .int .i64 0, .int .i64 0, .slice none 0 0, .slice none 0 0, .slice none 0 0]) Try.underlying29 rfl (by kernel_rfl)) rfl ?_
          have h3 := below_setRow HS.out.bel (show w.heap.size ≤ B + 1 by have := HW.out; omega) #[.int .i64 7, .int .i64 F0, .int .i64 F1, .int .i64 F2, .int .i64 0, .int .i64 0, .bool false, .int .i64 0, .int .i64 0, .int .i64 0, .int .i64 0, .slice none 0 0, .int .i64 F3, .int .i64 F4, .slice Ah hv.length ch, .slice An nv.length cn, .int .i64 0, .int .i64 0, .int .i64 0, .int .i64 0, .int .i64 0, .slice none 0 0, .slice none 0 0, .slice none 0 0]
          rw [HT.out, ← HV.out, ← HV2.out]
          exact ⟨⟨none, 0, Ah, ch, An, cn, CA.zero⟩, rfl, ⟨own_nil _ _, own_row_t HS.out.rows.a HS.out.res (by decide), own_row_t HS.out.rows.b HS.out.res (by decide), OwnC.zero _ _⟩, h3, h3⟩
end Go.Proofs.Ytbgagmpifaakgaa

