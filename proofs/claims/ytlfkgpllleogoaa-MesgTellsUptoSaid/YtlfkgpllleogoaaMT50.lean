/- Ref11Dec -/
import Derived.Test.YtlfkgpllleogoaaMT49
namespace Go.Proofs.Ytlfkgpllleogoaa
open Go.RowKit
set_option linter.unusedVariables false
set_option maxHeartbeats 8000000 in
set_option maxRecDepth 100000 in
theorem refDecode11_raw (w : World) {A : Option Addr} {n c B0 : Nat} {l : List Nat} (hl : l.length ≤ 2000000) (hb : ∀ x ∈ l, x < 256) (hc : n ≤ c ∧ c ≤ maxLen) (h : Rd w B0 A n (bv l)) : Calls Try.prog 20 #[.slice A n c] w (GotG w w (Mg.dec l)) := by
  obtain ⟨wb, hwb⟩ : ∃ x, (w.alloc (.cells #[.int .i64 0, .int .i64 0, .int .i64 0, .int .i64 0, .int .i64 0, .int .i64 0, .bool false, .int .i64 0, .int .i64 0, .int .i64 0, .int .i64 0, .slice none 0 0, .int .i64 0, .int .i64 0, .slice none 0 0, .slice none 0 0, .int .i64 0, .int .i64 0, .int .i64 0, .int .i64 0, .int .i64 0, .slice none 0 0, .slice none 0 0, .slice none 0 0] 29)).alloc (.cells #[.slice A n c, .bool false] 75) = x := ⟨_, rfl⟩
  obtain ⟨gr, hgr⟩ : ∃ g, w.heap.size = g := ⟨_, rfl⟩
  obtain ⟨gb, hgb⟩ : ∃ g, w.heap.size + 1 = g := ⟨_, rfl⟩
  have hbb : Below w.heap.size w wb := by rw [← hwb]; exact ((Below.refl _ _).alloc (Nat.le_refl _) _).alloc (by rw [World.size_alloc]; omega) _
  have kr : Blk wb gr 29 msgZ := by rw [← hwb, ← hgr]; exact (Blk.new _ _ _).alloc _
  have kb : Blk wb gb 75 #[.slice A n c, .bool false] := by
    rw [← hwb, ← hgb]
    have := Blk.new (w.alloc (.cells #[.int .i64 0, .int .i64 0, .int .i64 0, .int .i64 0, .int .i64 0, .int .i64 0, .bool false, .int .i64 0, .int .i64 0, .int .i64 0, .int .i64 0, .slice none 0 0, .int .i64 0, .int .i64 0, .slice none 0 0, .slice none 0 0, .int .i64 0, .int .i64 0, .int .i64 0, .int .i64 0, .int .i64 0, .slice none 0 0, .slice none 0 0, .slice none 0 0] 29)) 75 #[.slice A n c, .bool false]
    rwa [World.size_alloc] at this
  have hn := h.length
  obtain ⟨B, hB⟩ : ∃ B, w.heap.size = B := ⟨_, rfl⟩
  have hra : RefAt wb B gb (some l) := ⟨A, n, c, kb, hc.1, hc.2, by unfold Lim; omega, by omega, fun l' hl' => by injection hl' with hl'; subst hl'; exact ⟨by rw [← hB]; exact h.fit.below hbb, hb⟩⟩
  have HS0 : Hid (RdSt wb wb B gb (some l)) := Lib.hid ⟨hra, only_refl gb wb⟩
  have HBL : Hid (gb < wb.heap.size) := Lib.hid kb.lt
  have HGR : Hid (gr < wb.heap.size) := Lib.hid kr.lt
  have HNE : Hid (gr ≠ gb) := Lib.hid (by omega)
  have HKR := Lib.hid kr
  have HBB := Lib.hid hbb
  have HWB := Lib.hid hwb
  have HG := Lib.hid hgr
  have HGB := Lib.hid hgb
  obtain ⟨st0, hs0⟩ : ∃ x, (some l : Pk.St) = x := ⟨_, rfl⟩
  obtain ⟨M, hM⟩ : ∃ x, (Mg.get st0).1 = x := ⟨_, rfl⟩
  obtain ⟨s', hs'⟩ : ∃ x, (Mg.get st0).2 = x := ⟨_, rfl⟩
  have HR : Hid (Mg.dec l = if M.kind ≠ 0 ∧ s' = some [] then some M else none) := Lib.hid (by unfold Mg.dec; rw [hs0, hM, hs'])
  have HMM := Lib.hid hM
  have HSS := Lib.hid hs'
  rw [hs0] at HS0
  have HEND : Hid (∀ (wx : World) (X : Option Mg) (aX : GA) (mX : Mg) (cs cs1 : Array Value) (s : Pk.St) (gm : Nat), X.getD Mg.zero = mX → cs1 = msgC aX mX → DcSt wb wx B gb gm gr cs s → OwnG wb wx aX mX → GotG w w X (.returned (.tuple #[.agg cs1, .bool X.isSome])) (wx.setRow gr cs1)) := Lib.hid (by
    intro wx X aX mX cs cs1 s gm h1 h2 h3 h4
    have hw2 : Below w.heap.size w wx := hbb.grown h3.r.only hbb.size (fun k hk => by injection hk with hk; omega)
    have hbr : Below w.heap.size w (wx.setRow gr cs1) := below_setRow hw2 (by omega) cs1
    refine ⟨aX, by rw [h1, h2]; rfl, ?_, hbr, hbr⟩
    rw [h1]
    exact (h4.rowS h3.res (by decide) (by decide)).of hbb.size)
  clear hl hb hc h hbb kr kb hn hB hra hwb hgr hgb hs0 hM hs'
  go_enter Try.func20, Try.ntmps20
  go_upto_region 2 with fail
  rw [HGB.out, HG.out, HWB.out]
  clear HWB
  obtain ⟨v0, d0⟩ : ∃ x, Pk.numV st0 8 = x := ⟨_, rfl⟩
  obtain ⟨st1, e0⟩ : ∃ x, Pk.numS st0 8 = x := ⟨_, rfl⟩
  have D0 := Lib.hid d0
  have E0 := Lib.hid e0
  clear d0 e0
  obtain ⟨v1, d1⟩ : ∃ x, Pk.numV st1 6 = x := ⟨_, rfl⟩
  obtain ⟨st2, e1⟩ : ∃ x, Pk.numS st1 6 = x := ⟨_, rfl⟩
  have D1 := Lib.hid d1
  have E1 := Lib.hid e1
  clear d1 e1
  obtain ⟨v2, d2⟩ : ∃ x, Pk.numV st2 6 = x := ⟨_, rfl⟩
  obtain ⟨st3, e2⟩ : ∃ x, Pk.numS st2 6 = x := ⟨_, rfl⟩
  have D2 := Lib.hid d2
  have E2 := Lib.hid e2
  clear d2 e2
  obtain ⟨v3, d3⟩ : ∃ x, Pk.numV st3 1099511627776 = x := ⟨_, rfl⟩
  obtain ⟨st4, e3⟩ : ∃ x, Pk.numS st3 1099511627776 = x := ⟨_, rfl⟩
  have D3 := Lib.hid d3
  have E3 := Lib.hid e3
  clear d3 e3
  have C := Lib.hid (refrnum_any wb B gb st0 8 HS0.out.r)
  rw [D0.out, E0.out] at C
  go_wp2_with fail
  refine C.out.mono ?_
  rintro en wx ⟨rfl, hr, ho, hz⟩
  clear hz
  have HS0 := Lib.hid (HS0.out.call hr ho)
  have HKR := Lib.hid (HKR.out.grown ho (by have := HNE.out; simpa using this))
  clear hr ho C
  have C := Lib.hid (refrnum_any wx B gb st1 6 HS0.out.r)
  rw [D1.out, E1.out] at C
  go_wp2_with fail
  refine C.out.mono ?_
  rintro en wx ⟨rfl, hr, ho, hz⟩
  clear hz
  have HS0 := Lib.hid (HS0.out.call hr ho)
  have HKR := Lib.hid (HKR.out.grown ho (by have := HNE.out; simpa using this))
  clear hr ho C
  have C := Lib.hid (refrnum_any wx B gb st2 6 HS0.out.r)
  rw [D2.out, E2.out] at C
  go_wp2_with fail
  refine C.out.mono ?_
  rintro en wx ⟨rfl, hr, ho, hz⟩
  clear hz
  have HS0 := Lib.hid (HS0.out.call hr ho)
  have HKR := Lib.hid (HKR.out.grown ho (by have := HNE.out; simpa using this))
  clear hr ho C
  have C := Lib.hid (refrnum_any wx B gb st3 1099511627776 HS0.out.r)
  rw [D3.out, E3.out] at C
  go_wp2_with fail
  refine C.out.mono ?_
  rintro en wx ⟨rfl, hr, ho, hz⟩
  clear hz
  have HS0 := Lib.hid (HS0.out.call hr ho)
  have HKR := Lib.hid (HKR.out.grown ho (by have := HNE.out; simpa using this))
  clear hr ho C
  have HZ := Lib.hid (Blk.new wx 29 #[.int .i64 0, .int .i64 0, .int .i64 0, .int .i64 0, .int .i64 0, .int .i64 0, .bool false, .int .i64 0, .int .i64 0, .int .i64 0, .int .i64 0, .slice none 0 0, .int .i64 0, .int .i64 0, .slice none 0 0, .slice none 0 0, .int .i64 0, .int .i64 0, .int .i64 0, .int .i64 0, .int .i64 0, .slice none 0 0, .slice none 0 0, .slice none 0 0])
  go_upto_region 3 with (first
    | (refine wpList_store_row rfl 29 (.tmp 5) (.tmp 17) rfl wx.heap.size #[.int .i64 (v0 : Int), .int .i64 (v1 : Int), .int .i64 (v2 : Int), .int .i64 (v3 : Int), .int .i64 0, .int .i64 0, .bool false, .int .i64 0, .int .i64 0, .int .i64 0, .int .i64 0, .slice none 0 0, .int .i64 0, .int .i64 0, .slice none 0 0, .slice none 0 0, .int .i64 0, .int .i64 0, .int .i64 0, .int .i64 0, .int .i64 0, .slice none 0 0, .slice none 0 0, .slice none 0 0] rfl rfl 29 #[.int .i64 0, .int .i64 0, .int .i64 0, .int .i64 0, .int .i64 0, .int .i64 0, .bool false, .int .i64 0, .int .i64 0, .int .i64 0, .int .i64 0, .slice none 0 0, .int .i64 0, .int .i64 0, .slice none 0 0, .slice none 0 0, .int .i64 0, .int .i64 0, .int .i64 0, .int .i64 0, .int .i64 0, .slice none 0 0, .slice none 0 0, .slice none 0 0] HZ.out (by kernel_rfl) rfl (by kernel_rfl) ?_)
    | fail)
  have HS : Hid (DcSt wb ((wx.alloc (.cells #[.int .i64 0, .int .i64 0, .int .i64 0, .int .i64 0, .int .i64 0, .int .i64 0, .bool false, .int .i64 0, .int .i64 0, .int .i64 0, .int .i64 0, .slice none 0 0, .int .i64 0, .int .i64 0, .slice none 0 0, .slice none 0 0, .int .i64 0, .int .i64 0, .int .i64 0, .int .i64 0, .int .i64 0, .slice none 0 0, .slice none 0 0, .slice none 0 0] 29)).setRow wx.heap.size #[.int .i64 (v0 : Int), .int .i64 (v1 : Int), .int .i64 (v2 : Int), .int .i64 (v3 : Int), .int .i64 0, .int .i64 0, .bool false, .int .i64 0, .int .i64 0, .int .i64 0, .int .i64 0, .slice none 0 0, .int .i64 0, .int .i64 0, .slice none 0 0, .slice none 0 0, .int .i64 0, .int .i64 0, .int .i64 0, .int .i64 0, .int .i64 0, .slice none 0 0, .slice none 0 0, .slice none 0 0]) B gb wx.heap.size gr #[.int .i64 (v0 : Int), .int .i64 (v1 : Int), .int .i64 (v2 : Int), .int .i64 (v3 : Int), .int .i64 0, .int .i64 0, .bool false, .int .i64 0, .int .i64 0, .int .i64 0, .int .i64 0, .slice none 0 0, .int .i64 0, .int .i64 0, .slice none 0 0, .slice none 0 0, .int .i64 0, .int .i64 0, .int .i64 0, .int .i64 0, .int .i64 0, .slice none 0 0, .slice none 0 0, .slice none 0 0] st4) := Lib.hid (by
    have hz := HS0.out.size
    have hb1 : Below wx.heap.size wx ((wx.alloc (.cells #[.int .i64 0, .int .i64 0, .int .i64 0, .int .i64 0, .int .i64 0, .int .i64 0, .bool false, .int .i64 0, .int .i64 0, .int .i64 0, .int .i64 0, .slice none 0 0, .int .i64 0, .int .i64 0, .slice none 0 0, .slice none 0 0, .int .i64 0, .int .i64 0, .int .i64 0, .int .i64 0, .int .i64 0, .slice none 0 0, .slice none 0 0, .slice none 0 0] 29)).setRow wx.heap.size #[.int .i64 (v0 : Int), .int .i64 (v1 : Int), .int .i64 (v2 : Int), .int .i64 (v3 : Int), .int .i64 0, .int .i64 0, .bool false, .int .i64 0, .int .i64 0, .int .i64 0, .int .i64 0, .slice none 0 0, .int .i64 0, .int .i64 0, .slice none 0 0, .slice none 0 0, .int .i64 0, .int .i64 0, .int .i64 0, .int .i64 0, .int .i64 0, .slice none 0 0, .slice none 0 0, .slice none 0 0]) := below_setRow ((Below.refl _ _).alloc (Nat.le_refl _) _) (Nat.le_refl _) _
    exact ⟨HS0.out.below hb1, HZ.out.row _, HKR.out.below hb1, HBL.out, hz, HGR.out⟩)
  obtain ⟨gm, hgm⟩ : ∃ g, wx.heap.size = g := ⟨_, rfl⟩
  rw [hgm] at HS ⊢
  generalize (wx.alloc (.cells #[.int .i64 0, .int .i64 0, .int .i64 0, .int .i64 0, .int .i64 0, .int .i64 0, .bool false, .int .i64 0, .int .i64 0, .int .i64 0, .int .i64 0, .slice none 0 0, .int .i64 0, .int .i64 0, .slice none 0 0, .slice none 0 0, .int .i64 0, .int .i64 0, .int .i64 0, .int .i64 0, .int .i64 0, .slice none 0 0, .slice none 0 0, .slice none 0 0] 29)).setRow gm #[.int .i64 (v0 : Int), .int .i64 (v1 : Int), .int .i64 (v2 : Int), .int .i64 (v3 : Int), .int .i64 0, .int .i64 0, .bool false, .int .i64 0, .int .i64 0, .int .i64 0, .int .i64 0, .slice none 0 0, .int .i64 0, .int .i64 0, .slice none 0 0, .slice none 0 0, .int .i64 0, .int .i64 0, .int .i64 0, .int .i64 0, .int .i64 0, .slice none 0 0, .slice none 0 0, .slice none 0 0] = wx at HS ⊢
  clear hgm HZ HS0 HKR
  have y0 : wx.cell? ⟨gm, 0, none⟩ = some (.int .i64 (v0 : Int)) := HS.out.blk.cell 0
  go_upto_region 4 with fail
  clear y0
  by_cases c2 : v0 = 2
  · have s2_ : ((v0 : Int) == 2) = true := by rw [c2]; rfl
    have s3_ : ((v0 : Int) == 3) = false := by rw [c2]; rfl
    have s4_ : ((v0 : Int) == 4) = false := by rw [c2]; rfl
    have s5_ : ((v0 : Int) == 5) = false := by rw [c2]; rfl
    have s7_ : ((v0 : Int) == 7) = false := by rw [c2]; rfl
    have s8_ : ((v0 : Int) == 8) = false := by rw [c2]; rfl
    have HC2 := Lib.hid c2
    clear c2
    go_upto_region 5 with fail
    obtain ⟨v4, d4⟩ : ∃ x, Pk.numV st4 1099511627776 = x := ⟨_, rfl⟩
    obtain ⟨st5, e4⟩ : ∃ x, Pk.numS st4 1099511627776 = x := ⟨_, rfl⟩
    have D4 := Lib.hid d4
    have E4 := Lib.hid e4
    clear d4 e4
    obtain ⟨v5, d5⟩ : ∃ x, Pk.numV st5 1099511627776 = x := ⟨_, rfl⟩
    obtain ⟨st6, e5⟩ : ∃ x, Pk.numS st5 1099511627776 = x := ⟨_, rfl⟩
    have D5 := Lib.hid d5
    have E5 := Lib.hid e5
    clear d5 e5
    go_wp2_with fail
    refine (HS.out.num 1099511627776 D4.out E4.out).mono ?_
    rintro en wx ⟨rfl, hs, ho⟩
    have HS := Lib.hid hs
    clear hs ho
    go_wp2_with fail
    refine (HS.out.num 1099511627776 D5.out E5.out).mono ?_
    rintro en wx ⟨rfl, hs, ho⟩
    have HS := Lib.hid hs
    clear hs ho
    have x4 : wx.cell? ⟨gm, 4, none⟩ = some (.int .i64 0) := HS.out.blk.cell 4
    have f4 := HS.out.blk.frozen 4
    have x5 : wx.cell? ⟨gm, 5, none⟩ = some (.int .i64 0) := HS.out.blk.cell 5
    have f5 := HS.out.blk.frozen 5
    go_upto_region 6 with fail
    clear x4 f4 x5 f5
    have HS : Hid (DcSt wb ((wx.setCell ⟨gm, 4, none⟩ (.int .i64 (v4 : Int))).setCell ⟨gm, 5, none⟩ (.int .i64 (v5 : Int))) B gb gm gr #[.int .i64 (v0 : Int), .int .i64 (v1 : Int), .int .i64 (v2 : Int), .int .i64 (v3 : Int), .int .i64 (v4 : Int), .int .i64 (v5 : Int), .bool false, .int .i64 0, .int .i64 0, .int .i64 0, .int .i64 0, .slice none 0 0, .int .i64 0, .int .i64 0, .slice none 0 0, .slice none 0 0, .int .i64 0, .int .i64 0, .int .i64 0, .int .i64 0, .int .i64 0, .slice none 0 0, .slice none 0 0, .slice none 0 0] st6) := Lib.hid ((HS.out.put 4 (.int .i64 (v4 : Int))).put 5 (.int .i64 (v5 : Int)))
    generalize ((wx.setCell ⟨gm, 4, none⟩ (.int .i64 (v4 : Int))).setCell ⟨gm, 5, none⟩ (.int .i64 (v5 : Int))) = wx at HS ⊢
    obtain ⟨v6, d6⟩ : ∃ x, Pk.numV st6 1 = x := ⟨_, rfl⟩
    obtain ⟨st7, e6⟩ : ∃ x, Pk.numS st6 1 = x := ⟨_, rfl⟩
    have D6 := Lib.hid d6
    have E6 := Lib.hid e6
    clear d6 e6
    go_wp2_with fail
    refine (HS.out.num 1 D6.out E6.out).mono ?_
    rintro en wx ⟨rfl, hs, ho⟩
    have HS := Lib.hid hs
    clear hs ho
    have x6 : wx.cell? ⟨gm, 6, none⟩ = some (.bool false) := HS.out.blk.cell 6
    have f6 := HS.out.blk.frozen 6
    have hfl : ((v6 : Int) == 1) = decide (v6 = 1) := by rw [Bool.eq_iff_iff]; simp; omega
    go_upto_region 21 with fail
    clear x6 f6
    clear hfl
    have HS : Hid (DcSt wb (wx.setCell ⟨gm, 6, none⟩ (.bool (decide (v6 = 1)))) B gb gm gr #[.int .i64 (v0 : Int), .int .i64 (v1 : Int), .int .i64 (v2 : Int), .int .i64 (v3 : Int), .int .i64 (v4 : Int), .int .i64 (v5 : Int), .bool (decide (v6 = 1)), .int .i64 0, .int .i64 0, .int .i64 0, .int .i64 0, .slice none 0 0, .int .i64 0, .int .i64 0, .slice none 0 0, .slice none 0 0, .int .i64 0, .int .i64 0, .int .i64 0, .int .i64 0, .int .i64 0, .slice none 0 0, .slice none 0 0, .slice none 0 0] st7) := Lib.hid (HS.out.put 6 (.bool (decide (v6 = 1))))
    generalize (wx.setCell ⟨gm, 6, none⟩ (.bool (decide (v6 = 1)))) = wx at HS ⊢
    have z0 : wx.cell? ⟨gm, 0, none⟩ = some (.int .i64 (v0 : Int)) := HS.out.blk.cell 0
    have hget : Mg.get st0 = ((⟨(v0 : Int), (v1 : Int), (v2 : Int), (v3 : Int), (v4 : Int), (v5 : Int), (decide (v6 = 1)), 0, 0, 0, 0, [], 0, 0, [], [], 0, En.zero⟩ : Mg), st7) := by
      unfold Mg.get hd s4
      simp only [D0.out, E0.out, D1.out, E1.out, D2.out, E2.out, D3.out, E3.out, D4.out, E4.out, D5.out, E5.out, D6.out, E6.out]
      simp [HC2.out, Mg.zero]
    have hm1 : (⟨(v0 : Int), (v1 : Int), (v2 : Int), (v3 : Int), (v4 : Int), (v5 : Int), (decide (v6 = 1)), 0, 0, 0, 0, [], 0, 0, [], [], 0, En.zero⟩ : Mg) = M := by rw [← HMM.out, hget]
    have hs1 : st7 = s' := by rw [← HSS.out, hget]
    clear hget
    have hown : OwnG wb wx ⟨none, 0, none, 0, none, 0, CA.zero⟩ M := by rw [← hm1]; exact ⟨(own_nil _ _), (ownI_nil _ _), (ownI_nil _ _), (OwnC.zero _ _)⟩
    have hcs : #[.int .i64 (v0 : Int), .int .i64 (v1 : Int), .int .i64 (v2 : Int), .int .i64 (v3 : Int), .int .i64 (v4 : Int), .int .i64 (v5 : Int), .bool (decide (v6 = 1)), .int .i64 0, .int .i64 0, .int .i64 0, .int .i64 0, .slice none 0 0, .int .i64 0, .int .i64 0, .slice none 0 0, .slice none 0 0, .int .i64 0, .int .i64 0, .int .i64 0, .int .i64 0, .int .i64 0, .slice none 0 0, .slice none 0 0, .slice none 0 0] = msgC ⟨none, 0, none, 0, none, 0, CA.zero⟩ M := by rw [← hm1]; rfl
    have hMk : M.kind = (v0 : Int) := by rw [← hm1]
    have HOWN := Lib.hid hown
    have HCS := Lib.hid hcs
    have HMK := Lib.hid hMk
    rw [hs1] at HS
    clear hm1 hs1 hown hcs hMk
    have h0 : v0 ≠ 0 := by have := HC2.out; omega
    have r0 : ((v0 : Int) == 0) = false := by rw [beq_eq_false_iff_ne]; omega
    by_cases h1 : s' = some []
    · have hr : Mg.dec l = some M := by rw [HR.out, if_pos ⟨by rw [HMK.out]; omega, h1⟩]
      have he : Pk.endOf s' = true := by rw [h1]; rfl
      have HE := Lib.hid (HS.out.ends)
      rw [he] at HE
      clear h1 he
      go_upto_region 23 with (first
        | (go_at_call 51; refine HE.out.mono ?_; rintro en wq ⟨rfl, rfl⟩)
        | fail)
      go_wp2_with (first
        | (refine wpList_load_row rfl 29 (.tmp 5) rfl gm rfl 29 #[.int .i64 (v0 : Int), .int .i64 (v1 : Int), .int .i64 (v2 : Int), .int .i64 (v3 : Int), .int .i64 (v4 : Int), .int .i64 (v5 : Int), .bool (decide (v6 = 1)), .int .i64 0, .int .i64 0, .int .i64 0, .int .i64 0, .slice none 0 0, .int .i64 0, .int .i64 0, .slice none 0 0, .slice none 0 0, .int .i64 0, .int .i64 0, .int .i64 0, .int .i64 0, .int .i64 0, .slice none 0 0, .slice none 0 0, .slice none 0 0] (0, 0) _ HS.out.blk Try.underlying29 rfl (by kernel_rfl) ?_)
        | (refine wpList_store_row rfl 29 (.tmp 2) (.tmp 90) rfl gr #[.int .i64 (v0 : Int), .int .i64 (v1 : Int), .int .i64 (v2 : Int), .int .i64 (v3 : Int), .int .i64 (v4 : Int), .int .i64 (v5 : Int), .bool (decide (v6 = 1)), .int .i64 0, .int .i64 0, .int .i64 0, .int .i64 0, .slice none 0 0, .int .i64 0, .int .i64 0, .slice none 0 0, .slice none 0 0, .int .i64 0, .int .i64 0, .int .i64 0, .int .i64 0, .int .i64 0, .slice none 0 0, .slice none 0 0, .slice none 0 0] rfl rfl 29 msgZ HS.out.res (by kernel_rfl) rfl (by kernel_rfl) ?_)
        | fail)
      refine bodyPost_ret (results_cell_tmp rfl _ _ _ _ _ _ rfl (HS.out.res.row #[.int .i64 (v0 : Int), .int .i64 (v1 : Int), .int .i64 (v2 : Int), .int .i64 (v3 : Int), .int .i64 (v4 : Int), .int .i64 (v5 : Int), .bool (decide (v6 = 1)), .int .i64 0, .int .i64 0, .int .i64 0, .int .i64 0, .slice none 0 0, .int .i64 0, .int .i64 0, .slice none 0 0, .slice none 0 0, .int .i64 0, .int .i64 0, .int .i64 0, .int .i64 0, .int .i64 0, .slice none 0 0, .slice none 0 0, .slice none 0 0]) Try.underlying29 rfl (by kernel_rfl)) rfl ?_
      rw [hr]
      exact HEND.out wx (some M) _ M _ _ _ _ rfl HCS.out HS.out HOWN.out
    · have hr : Mg.dec l = none := by rw [HR.out, if_neg (fun h => h1 h.2)]
      have he : Pk.endOf s' = false := by
        cases s' with
        | none => rfl
        | some x => cases x with
          | nil => exact absurd rfl h1
          | cons y z => rfl
      have HE := Lib.hid (HS.out.ends)
      rw [he] at HE
      clear h1 he
      go_wp2_with (first
        | (go_at_call 51; refine HE.out.mono ?_; rintro en wq ⟨rfl, rfl⟩)
        | (refine wpList_store_row rfl 29 (.tmp 2) (.tmp 89) rfl gr #[.int .i64 0, .int .i64 0, .int .i64 0, .int .i64 0, .int .i64 0, .int .i64 0, .bool false, .int .i64 0, .int .i64 0, .int .i64 0, .int .i64 0, .slice none 0 0, .int .i64 0, .int .i64 0, .slice none 0 0, .slice none 0 0, .int .i64 0, .int .i64 0, .int .i64 0, .int .i64 0, .int .i64 0, .slice none 0 0, .slice none 0 0, .slice none 0 0] rfl rfl 29 msgZ HS.out.res (by kernel_rfl) rfl (by kernel_rfl) ?_)
        | fail)
      refine bodyPost_ret (results_cell_tmp rfl _ _ _ _ _ _ rfl (HS.out.res.row #[.int .i64 0, .int .i64 0, .int .i64 0, .int .i64 0, .int .i64 0, .int .i64 0, .bool false, .int .i64 0, .int .i64 0, .int .i64 0, .int .i64 0, .slice none 0 0, .int .i64 0, .int .i64 0, .slice none 0 0, .slice none 0 0, .int .i64 0, .int .i64 0, .int .i64 0, .int .i64 0, .int .i64 0, .slice none 0 0, .slice none 0 0, .slice none 0 0]) Try.underlying29 rfl (by kernel_rfl)) rfl ?_
      rw [hr]
      exact HEND.out wx none GA.zero Mg.zero _ _ _ _ rfl rfl HS.out (OwnG.zero _ _)
  by_cases c3 : v0 = 3
  · have s2_ : ((v0 : Int) == 2) = false := by rw [c3]; rfl
    have s3_ : ((v0 : Int) == 3) = true := by rw [c3]; rfl
    have s4_ : ((v0 : Int) == 4) = false := by rw [c3]; rfl
    have s5_ : ((v0 : Int) == 5) = false := by rw [c3]; rfl
    have s7_ : ((v0 : Int) == 7) = false := by rw [c3]; rfl
    have s8_ : ((v0 : Int) == 8) = false := by rw [c3]; rfl
    have HC3 := Lib.hid c3
    clear c2 c3
    go_upto_region 8 with fail
    obtain ⟨v4, d4⟩ : ∃ x, Pk.numV st4 127 = x := ⟨_, rfl⟩
    obtain ⟨st5, e4⟩ : ∃ x, Pk.numS st4 127 = x := ⟨_, rfl⟩
    have D4 := Lib.hid d4
    have E4 := Lib.hid e4
    clear d4 e4
    obtain ⟨v5, d5⟩ : ∃ x, Pk.numV st5 6 = x := ⟨_, rfl⟩
    obtain ⟨st6, e5⟩ : ∃ x, Pk.numS st5 6 = x := ⟨_, rfl⟩
    have D5 := Lib.hid d5
    have E5 := Lib.hid e5
    clear d5 e5
    obtain ⟨v6, d6⟩ : ∃ x, Pk.numV st6 1099511627776 = x := ⟨_, rfl⟩
    obtain ⟨st7, e6⟩ : ∃ x, Pk.numS st6 1099511627776 = x := ⟨_, rfl⟩
    have D6 := Lib.hid d6
    have E6 := Lib.hid e6
    clear d6 e6
    go_wp2_with fail
    refine (HS.out.num 127 D4.out E4.out).mono ?_
    rintro en wx ⟨rfl, hs, ho⟩
    have HS := Lib.hid hs
    clear hs ho
    go_wp2_with fail
    refine (HS.out.num 6 D5.out E5.out).mono ?_
    rintro en wx ⟨rfl, hs, ho⟩
    have HS := Lib.hid hs
    clear hs ho
    go_wp2_with fail
    refine (HS.out.num 1099511627776 D6.out E6.out).mono ?_
    rintro en wx ⟨rfl, hs, ho⟩
    have HS := Lib.hid hs
    clear hs ho
    have x7 : wx.cell? ⟨gm, 7, none⟩ = some (.int .i64 0) := HS.out.blk.cell 7
    have f7 := HS.out.blk.frozen 7
    have x8 : wx.cell? ⟨gm, 8, none⟩ = some (.int .i64 0) := HS.out.blk.cell 8
    have f8 := HS.out.blk.frozen 8
    have x5 : wx.cell? ⟨gm, 5, none⟩ = some (.int .i64 0) := HS.out.blk.cell 5
    have f5 := HS.out.blk.frozen 5
    go_upto_region 21 with fail
    clear x7 f7 x8 f8 x5 f5
    have HS : Hid (DcSt wb (((wx.setCell ⟨gm, 7, none⟩ (.int .i64 (v4 : Int))).setCell ⟨gm, 8, none⟩ (.int .i64 (v5 : Int))).setCell ⟨gm, 5, none⟩ (.int .i64 (v6 : Int))) B gb gm gr #[.int .i64 (v0 : Int), .int .i64 (v1 : Int), .int .i64 (v2 : Int), .int .i64 (v3 : Int), .int .i64 0, .int .i64 (v6 : Int), .bool false, .int .i64 (v4 : Int), .int .i64 (v5 : Int), .int .i64 0, .int .i64 0, .slice none 0 0, .int .i64 0, .int .i64 0, .slice none 0 0, .slice none 0 0, .int .i64 0, .int .i64 0, .int .i64 0, .int .i64 0, .int .i64 0, .slice none 0 0, .slice none 0 0, .slice none 0 0] st7) := Lib.hid (((HS.out.put 7 (.int .i64 (v4 : Int))).put 8 (.int .i64 (v5 : Int))).put 5 (.int .i64 (v6 : Int)))
    generalize (((wx.setCell ⟨gm, 7, none⟩ (.int .i64 (v4 : Int))).setCell ⟨gm, 8, none⟩ (.int .i64 (v5 : Int))).setCell ⟨gm, 5, none⟩ (.int .i64 (v6 : Int))) = wx at HS ⊢
    have z0 : wx.cell? ⟨gm, 0, none⟩ = some (.int .i64 (v0 : Int)) := HS.out.blk.cell 0
    have hget : Mg.get st0 = ((⟨(v0 : Int), (v1 : Int), (v2 : Int), (v3 : Int), 0, (v6 : Int), false, (v4 : Int), (v5 : Int), 0, 0, [], 0, 0, [], [], 0, En.zero⟩ : Mg), st7) := by
      unfold Mg.get hd s4
      simp only [D0.out, E0.out, D1.out, E1.out, D2.out, E2.out, D3.out, E3.out, D4.out, E4.out, D5.out, E5.out, D6.out, E6.out]
      simp [HC3.out, Mg.zero]
    have hm1 : (⟨(v0 : Int), (v1 : Int), (v2 : Int), (v3 : Int), 0, (v6 : Int), false, (v4 : Int), (v5 : Int), 0, 0, [], 0, 0, [], [], 0, En.zero⟩ : Mg) = M := by rw [← HMM.out, hget]
    have hs1 : st7 = s' := by rw [← HSS.out, hget]
    clear hget
    have hown : OwnG wb wx ⟨none, 0, none, 0, none, 0, CA.zero⟩ M := by rw [← hm1]; exact ⟨(own_nil _ _), (ownI_nil _ _), (ownI_nil _ _), (OwnC.zero _ _)⟩
    have hcs : #[.int .i64 (v0 : Int), .int .i64 (v1 : Int), .int .i64 (v2 : Int), .int .i64 (v3 : Int), .int .i64 0, .int .i64 (v6 : Int), .bool false, .int .i64 (v4 : Int), .int .i64 (v5 : Int), .int .i64 0, .int .i64 0, .slice none 0 0, .int .i64 0, .int .i64 0, .slice none 0 0, .slice none 0 0, .int .i64 0, .int .i64 0, .int .i64 0, .int .i64 0, .int .i64 0, .slice none 0 0, .slice none 0 0, .slice none 0 0] = msgC ⟨none, 0, none, 0, none, 0, CA.zero⟩ M := by rw [← hm1]; rfl
    have hMk : M.kind = (v0 : Int) := by rw [← hm1]
    have HOWN := Lib.hid hown
    have HCS := Lib.hid hcs
    have HMK := Lib.hid hMk
    rw [hs1] at HS
    clear hm1 hs1 hown hcs hMk
    have h0 : v0 ≠ 0 := by have := HC3.out; omega
    have r0 : ((v0 : Int) == 0) = false := by rw [beq_eq_false_iff_ne]; omega
    by_cases h1 : s' = some []
    · have hr : Mg.dec l = some M := by rw [HR.out, if_pos ⟨by rw [HMK.out]; omega, h1⟩]
      have he : Pk.endOf s' = true := by rw [h1]; rfl
      have HE := Lib.hid (HS.out.ends)
      rw [he] at HE
      clear h1 he
      go_upto_region 23 with (first
        | (go_at_call 51; refine HE.out.mono ?_; rintro en wq ⟨rfl, rfl⟩)
        | fail)
      go_wp2_with (first
        | (refine wpList_load_row rfl 29 (.tmp 5) rfl gm rfl 29 #[.int .i64 (v0 : Int), .int .i64 (v1 : Int), .int .i64 (v2 : Int), .int .i64 (v3 : Int), .int .i64 0, .int .i64 (v6 : Int), .bool false, .int .i64 (v4 : Int), .int .i64 (v5 : Int), .int .i64 0, .int .i64 0, .slice none 0 0, .int .i64 0, .int .i64 0, .slice none 0 0, .slice none 0 0, .int .i64 0, .int .i64 0, .int .i64 0, .int .i64 0, .int .i64 0, .slice none 0 0, .slice none 0 0, .slice none 0 0] (0, 0) _ HS.out.blk Try.underlying29 rfl (by kernel_rfl) ?_)
        | (refine wpList_store_row rfl 29 (.tmp 2) (.tmp 90) rfl gr #[.int .i64 (v0 : Int), .int .i64 (v1 : Int), .int .i64 (v2 : Int), .int .i64 (v3 : Int), .int .i64 0, .int .i64 (v6 : Int), .bool false, .int .i64 (v4 : Int), .int .i64 (v5 : Int), .int .i64 0, .int .i64 0, .slice none 0 0, .int .i64 0, .int .i64 0, .slice none 0 0, .slice none 0 0, .int .i64 0, .int .i64 0, .int .i64 0, .int .i64 0, .int .i64 0, .slice none 0 0, .slice none 0 0, .slice none 0 0] rfl rfl 29 msgZ HS.out.res (by kernel_rfl) rfl (by kernel_rfl) ?_)
        | fail)
      refine bodyPost_ret (results_cell_tmp rfl _ _ _ _ _ _ rfl (HS.out.res.row #[.int .i64 (v0 : Int), .int .i64 (v1 : Int), .int .i64 (v2 : Int), .int .i64 (v3 : Int), .int .i64 0, .int .i64 (v6 : Int), .bool false, .int .i64 (v4 : Int), .int .i64 (v5 : Int), .int .i64 0, .int .i64 0, .slice none 0 0, .int .i64 0, .int .i64 0, .slice none 0 0, .slice none 0 0, .int .i64 0, .int .i64 0, .int .i64 0, .int .i64 0, .int .i64 0, .slice none 0 0, .slice none 0 0, .slice none 0 0]) Try.underlying29 rfl (by kernel_rfl)) rfl ?_
      rw [hr]
      exact HEND.out wx (some M) _ M _ _ _ _ rfl HCS.out HS.out HOWN.out
    · have hr : Mg.dec l = none := by rw [HR.out, if_neg (fun h => h1 h.2)]
      have he : Pk.endOf s' = false := by
        cases s' with
        | none => rfl
        | some x => cases x with
          | nil => exact absurd rfl h1
          | cons y z => rfl
      have HE := Lib.hid (HS.out.ends)
      rw [he] at HE
      clear h1 he
      go_wp2_with (first
        | (go_at_call 51; refine HE.out.mono ?_; rintro en wq ⟨rfl, rfl⟩)
        | (refine wpList_store_row rfl 29 (.tmp 2) (.tmp 89) rfl gr #[.int .i64 0, .int .i64 0, .int .i64 0, .int .i64 0, .int .i64 0, .int .i64 0, .bool false, .int .i64 0, .int .i64 0, .int .i64 0, .int .i64 0, .slice none 0 0, .int .i64 0, .int .i64 0, .slice none 0 0, .slice none 0 0, .int .i64 0, .int .i64 0, .int .i64 0, .int .i64 0, .int .i64 0, .slice none 0 0, .slice none 0 0, .slice none 0 0] rfl rfl 29 msgZ HS.out.res (by kernel_rfl) rfl (by kernel_rfl) ?_)
        | fail)
      refine bodyPost_ret (results_cell_tmp rfl _ _ _ _ _ _ rfl (HS.out.res.row #[.int .i64 0, .int .i64 0, .int .i64 0, .int .i64 0, .int .i64 0, .int .i64 0, .bool false, .int .i64 0, .int .i64 0, .int .i64 0, .int .i64 0, .slice none 0 0, .int .i64 0, .int .i64 0, .slice none 0 0, .slice none 0 0, .int .i64 0, .int .i64 0, .int .i64 0, .int .i64 0, .int .i64 0, .slice none 0 0, .slice none 0 0, .slice none 0 0]) Try.underlying29 rfl (by kernel_rfl)) rfl ?_
      rw [hr]
      exact HEND.out wx none GA.zero Mg.zero _ _ _ _ rfl rfl HS.out (OwnG.zero _ _)
  by_cases c4 : v0 = 4
  · have s2_ : ((v0 : Int) == 2) = false := by rw [c4]; rfl
    have s3_ : ((v0 : Int) == 3) = false := by rw [c4]; rfl
    have s4_ : ((v0 : Int) == 4) = true := by rw [c4]; rfl
    have s5_ : ((v0 : Int) == 5) = false := by rw [c4]; rfl
    have s7_ : ((v0 : Int) == 7) = false := by rw [c4]; rfl
    have s8_ : ((v0 : Int) == 8) = false := by rw [c4]; rfl
    have HC4 := Lib.hid c4
    clear c2 c3 c4
    go_upto_region 10 with fail
    obtain ⟨v4, d4⟩ : ∃ x, Pk.numV st4 1099511627776 = x := ⟨_, rfl⟩
    obtain ⟨st5, e4⟩ : ∃ x, Pk.numS st4 1099511627776 = x := ⟨_, rfl⟩
    have D4 := Lib.hid d4
    have E4 := Lib.hid e4
    clear d4 e4
    go_wp2_with fail
    refine (HS.out.num 1099511627776 D4.out E4.out).mono ?_
    rintro en wx ⟨rfl, hs, ho⟩
    have HS := Lib.hid hs
    clear hs ho
    have x9 : wx.cell? ⟨gm, 9, none⟩ = some (.int .i64 0) := HS.out.blk.cell 9
    have f9 := HS.out.blk.frozen 9
    go_upto_region 21 with fail
    clear x9 f9
    have HS : Hid (DcSt wb (wx.setCell ⟨gm, 9, none⟩ (.int .i64 (v4 : Int))) B gb gm gr #[.int .i64 (v0 : Int), .int .i64 (v1 : Int), .int .i64 (v2 : Int), .int .i64 (v3 : Int), .int .i64 0, .int .i64 0, .bool false, .int .i64 0, .int .i64 0, .int .i64 (v4 : Int), .int .i64 0, .slice none 0 0, .int .i64 0, .int .i64 0, .slice none 0 0, .slice none 0 0, .int .i64 0, .int .i64 0, .int .i64 0, .int .i64 0, .int .i64 0, .slice none 0 0, .slice none 0 0, .slice none 0 0] st5) := Lib.hid (HS.out.put 9 (.int .i64 (v4 : Int)))
    generalize (wx.setCell ⟨gm, 9, none⟩ (.int .i64 (v4 : Int))) = wx at HS ⊢
    have z0 : wx.cell? ⟨gm, 0, none⟩ = some (.int .i64 (v0 : Int)) := HS.out.blk.cell 0
    have hget : Mg.get st0 = ((⟨(v0 : Int), (v1 : Int), (v2 : Int), (v3 : Int), 0, 0, false, 0, 0, (v4 : Int), 0, [], 0, 0, [], [], 0, En.zero⟩ : Mg), st5) := by
      unfold Mg.get hd s4
      simp only [D0.out, E0.out, D1.out, E1.out, D2.out, E2.out, D3.out, E3.out, D4.out, E4.out]
      simp [HC4.out, Mg.zero]
    have hm1 : (⟨(v0 : Int), (v1 : Int), (v2 : Int), (v3 : Int), 0, 0, false, 0, 0, (v4 : Int), 0, [], 0, 0, [], [], 0, En.zero⟩ : Mg) = M := by rw [← HMM.out, hget]
    have hs1 : st5 = s' := by rw [← HSS.out, hget]
    clear hget
    have hown : OwnG wb wx ⟨none, 0, none, 0, none, 0, CA.zero⟩ M := by rw [← hm1]; exact ⟨(own_nil _ _), (ownI_nil _ _), (ownI_nil _ _), (OwnC.zero _ _)⟩
    have hcs : #[.int .i64 (v0 : Int), .int .i64 (v1 : Int), .int .i64 (v2 : Int), .int .i64 (v3 : Int), .int .i64 0, .int .i64 0, .bool false, .int .i64 0, .int .i64 0, .int .i64 (v4 : Int), .int .i64 0, .slice none 0 0, .int .i64 0, .int .i64 0, .slice none 0 0, .slice none 0 0, .int .i64 0, .int .i64 0, .int .i64 0, .int .i64 0, .int .i64 0, .slice none 0 0, .slice none 0 0, .slice none 0 0] = msgC ⟨none, 0, none, 0, none, 0, CA.zero⟩ M := by rw [← hm1]; rfl
    have hMk : M.kind = (v0 : Int) := by rw [← hm1]
    have HOWN := Lib.hid hown
    have HCS := Lib.hid hcs
    have HMK := Lib.hid hMk
    rw [hs1] at HS
    clear hm1 hs1 hown hcs hMk
    have h0 : v0 ≠ 0 := by have := HC4.out; omega
    have r0 : ((v0 : Int) == 0) = false := by rw [beq_eq_false_iff_ne]; omega
    by_cases h1 : s' = some []
    · have hr : Mg.dec l = some M := by rw [HR.out, if_pos ⟨by rw [HMK.out]; omega, h1⟩]
      have he : Pk.endOf s' = true := by rw [h1]; rfl
      have HE := Lib.hid (HS.out.ends)
      rw [he] at HE
      clear h1 he
      go_upto_region 23 with (first
        | (go_at_call 51; refine HE.out.mono ?_; rintro en wq ⟨rfl, rfl⟩)
        | fail)
      go_wp2_with (first
        | (refine wpList_load_row rfl 29 (.tmp 5) rfl gm rfl 29 #[.int .i64 (v0 : Int), .int .i64 (v1 : Int), .int .i64 (v2 : Int), .int .i64 (v3 : Int), .int .i64 0, .int .i64 0, .bool false, .int .i64 0, .int .i64 0, .int .i64 (v4 : Int), .int .i64 0, .slice none 0 0, .int .i64 0, .int .i64 0, .slice none 0 0, .slice none 0 0, .int .i64 0, .int .i64 0, .int .i64 0, .int .i64 0, .int .i64 0, .slice none 0 0, .slice none 0 0, .slice none 0 0] (0, 0) _ HS.out.blk Try.underlying29 rfl (by kernel_rfl) ?_)
        | (refine wpList_store_row rfl 29 (.tmp 2) (.tmp 90) rfl gr #[.int .i64 (v0 : Int), .int .i64 (v1 : Int), .int .i64 (v2 : Int), .int .i64 (v3 : Int), .int .i64 0, .int .i64 0, .bool false, .int .i64 0, .int .i64 0, .int .i64 (v4 : Int), .int .i64 0, .slice none 0 0, .int .i64 0, .int .i64 0, .slice none 0 0, .slice none 0 0, .int .i64 0, .int .i64 0, .int .i64 0, .int .i64 0, .int .i64 0, .slice none 0 0, .slice none 0 0, .slice none 0 0] rfl rfl 29 msgZ HS.out.res (by kernel_rfl) rfl (by kernel_rfl) ?_)
        | fail)
      refine bodyPost_ret (results_cell_tmp rfl _ _ _ _ _ _ rfl (HS.out.res.row #[.int .i64 (v0 : Int), .int .i64 (v1 : Int), .int .i64 (v2 : Int), .int .i64 (v3 : Int), .int .i64 0, .int .i64 0, .bool false, .int .i64 0, .int .i64 0, .int .i64 (v4 : Int), .int .i64 0, .slice none 0 0, .int .i64 0, .int .i64 0, .slice none 0 0, .slice none 0 0, .int .i64 0, .int .i64 0, .int .i64 0, .int .i64 0, .int .i64 0, .slice none 0 0, .slice none 0 0, .slice none 0 0]) Try.underlying29 rfl (by kernel_rfl)) rfl ?_
      rw [hr]
      exact HEND.out wx (some M) _ M _ _ _ _ rfl HCS.out HS.out HOWN.out
    · have hr : Mg.dec l = none := by rw [HR.out, if_neg (fun h => h1 h.2)]
      have he : Pk.endOf s' = false := by
        cases s' with
        | none => rfl
        | some x => cases x with
          | nil => exact absurd rfl h1
          | cons y z => rfl
      have HE := Lib.hid (HS.out.ends)
      rw [he] at HE
      clear h1 he
      go_wp2_with (first
        | (go_at_call 51; refine HE.out.mono ?_; rintro en wq ⟨rfl, rfl⟩)
        | (refine wpList_store_row rfl 29 (.tmp 2) (.tmp 89) rfl gr #[.int .i64 0, .int .i64 0, .int .i64 0, .int .i64 0, .int .i64 0, .int .i64 0, .bool false, .int .i64 0, .int .i64 0, .int .i64 0, .int .i64 0, .slice none 0 0, .int .i64 0, .int .i64 0, .slice none 0 0, .slice none 0 0, .int .i64 0, .int .i64 0, .int .i64 0, .int .i64 0, .int .i64 0, .slice none 0 0, .slice none 0 0, .slice none 0 0] rfl rfl 29 msgZ HS.out.res (by kernel_rfl) rfl (by kernel_rfl) ?_)
        | fail)
      refine bodyPost_ret (results_cell_tmp rfl _ _ _ _ _ _ rfl (HS.out.res.row #[.int .i64 0, .int .i64 0, .int .i64 0, .int .i64 0, .int .i64 0, .int .i64 0, .bool false, .int .i64 0, .int .i64 0, .int .i64 0, .int .i64 0, .slice none 0 0, .int .i64 0, .int .i64 0, .slice none 0 0, .slice none 0 0, .int .i64 0, .int .i64 0, .int .i64 0, .int .i64 0, .int .i64 0, .slice none 0 0, .slice none 0 0, .slice none 0 0]) Try.underlying29 rfl (by kernel_rfl)) rfl ?_
      rw [hr]
      exact HEND.out wx none GA.zero Mg.zero _ _ _ _ rfl rfl HS.out (OwnG.zero _ _)
  by_cases c5 : v0 = 5
  · have s2_ : ((v0 : Int) == 2) = false := by rw [c5]; rfl
    have s3_ : ((v0 : Int) == 3) = false := by rw [c5]; rfl
    have s4_ : ((v0 : Int) == 4) = false := by rw [c5]; rfl
    have s5_ : ((v0 : Int) == 5) = true := by rw [c5]; rfl
    have s7_ : ((v0 : Int) == 7) = false := by rw [c5]; rfl
    have s8_ : ((v0 : Int) == 8) = false := by rw [c5]; rfl
    have HC5 := Lib.hid c5
    clear c2 c3 c4 c5
    go_upto_region 12 with fail
    obtain ⟨v4, d4⟩ : ∃ x, Pk.numV st4 1099511627776 = x := ⟨_, rfl⟩
    obtain ⟨st5, e4⟩ : ∃ x, Pk.numS st4 1099511627776 = x := ⟨_, rfl⟩
    have D4 := Lib.hid d4
    have E4 := Lib.hid e4
    clear d4 e4
    obtain ⟨v5, d5⟩ : ∃ x, Pk.numV st5 1099511627776 = x := ⟨_, rfl⟩
    obtain ⟨st6, e5⟩ : ∃ x, Pk.numS st5 1099511627776 = x := ⟨_, rfl⟩
    have D5 := Lib.hid d5
    have E5 := Lib.hid e5
    clear d5 e5
    go_wp2_with fail
    refine (HS.out.num 1099511627776 D4.out E4.out).mono ?_
    rintro en wx ⟨rfl, hs, ho⟩
    have HS := Lib.hid hs
    clear hs ho
    go_wp2_with fail
    refine (HS.out.num 1099511627776 D5.out E5.out).mono ?_
    rintro en wx ⟨rfl, hs, ho⟩
    have HS := Lib.hid hs
    clear hs ho
    have x9 : wx.cell? ⟨gm, 9, none⟩ = some (.int .i64 0) := HS.out.blk.cell 9
    have f9 := HS.out.blk.frozen 9
    have x10 : wx.cell? ⟨gm, 10, none⟩ = some (.int .i64 0) := HS.out.blk.cell 10
    have f10 := HS.out.blk.frozen 10
    go_upto_region 13 with fail
    clear x9 f9 x10 f10
    have HS : Hid (DcSt wb ((wx.setCell ⟨gm, 9, none⟩ (.int .i64 (v4 : Int))).setCell ⟨gm, 10, none⟩ (.int .i64 (v5 : Int))) B gb gm gr #[.int .i64 (v0 : Int), .int .i64 (v1 : Int), .int .i64 (v2 : Int), .int .i64 (v3 : Int), .int .i64 0, .int .i64 0, .bool false, .int .i64 0, .int .i64 0, .int .i64 (v4 : Int), .int .i64 (v5 : Int), .slice none 0 0, .int .i64 0, .int .i64 0, .slice none 0 0, .slice none 0 0, .int .i64 0, .int .i64 0, .int .i64 0, .int .i64 0, .int .i64 0, .slice none 0 0, .slice none 0 0, .slice none 0 0] st6) := Lib.hid ((HS.out.put 9 (.int .i64 (v4 : Int))).put 10 (.int .i64 (v5 : Int)))
    generalize ((wx.setCell ⟨gm, 9, none⟩ (.int .i64 (v4 : Int))).setCell ⟨gm, 10, none⟩ (.int .i64 (v5 : Int))) = wx at HS ⊢
    obtain ⟨v6, d6⟩ : ∃ x, Pk.bytV st6 64 = x := ⟨_, rfl⟩
    obtain ⟨st7, e6⟩ : ∃ x, Pk.bytS st6 64 = x := ⟨_, rfl⟩
    have D6 := Lib.hid d6
    have E6 := Lib.hid e6
    clear d6 e6
    go_wp2_with fail
    refine (HS.out.data 64 D6.out E6.out).mono ?_
    rintro en wx ⟨A6, k6, rfl, hw, hs, ho⟩
    have HS := Lib.hid hs
    have Od := Lib.hid hw
    clear hw
    clear hs ho
    have x11 : wx.cell? ⟨gm, 11, none⟩ = some (.slice none 0 0) := HS.out.blk.cell 11
    have f11 := HS.out.blk.frozen 11
    go_upto_region 21 with fail
    clear x11 f11
    have Od : Hid (OwnB wb (wx.setCell ⟨gm, 11, none⟩ (.slice A6 v6.length k6)) A6 v6.length k6 v6) := Lib.hid (own_set_t Od.out HS.out.blk (by decide))
    have HS : Hid (DcSt wb (wx.setCell ⟨gm, 11, none⟩ (.slice A6 v6.length k6)) B gb gm gr #[.int .i64 (v0 : Int), .int .i64 (v1 : Int), .int .i64 (v2 : Int), .int .i64 (v3 : Int), .int .i64 0, .int .i64 0, .bool false, .int .i64 0, .int .i64 0, .int .i64 (v4 : Int), .int .i64 (v5 : Int), .slice A6 v6.length k6, .int .i64 0, .int .i64 0, .slice none 0 0, .slice none 0 0, .int .i64 0, .int .i64 0, .int .i64 0, .int .i64 0, .int .i64 0, .slice none 0 0, .slice none 0 0, .slice none 0 0] st7) := Lib.hid (HS.out.put 11 (.slice A6 v6.length k6))
    generalize (wx.setCell ⟨gm, 11, none⟩ (.slice A6 v6.length k6)) = wx at HS Od ⊢
    have z0 : wx.cell? ⟨gm, 0, none⟩ = some (.int .i64 (v0 : Int)) := HS.out.blk.cell 0
    have hget : Mg.get st0 = ((⟨(v0 : Int), (v1 : Int), (v2 : Int), (v3 : Int), 0, 0, false, 0, 0, (v4 : Int), (v5 : Int), v6, 0, 0, [], [], 0, En.zero⟩ : Mg), st7) := by
      unfold Mg.get hd s4
      simp only [D0.out, E0.out, D1.out, E1.out, D2.out, E2.out, D3.out, E3.out, D4.out, E4.out, D5.out, E5.out, D6.out, E6.out]
      simp [HC5.out, Mg.zero]
    have hm1 : (⟨(v0 : Int), (v1 : Int), (v2 : Int), (v3 : Int), 0, 0, false, 0, 0, (v4 : Int), (v5 : Int), v6, 0, 0, [], [], 0, En.zero⟩ : Mg) = M := by rw [← HMM.out, hget]
    have hs1 : st7 = s' := by rw [← HSS.out, hget]
    clear hget
    have hown : OwnG wb wx ⟨A6, k6, none, 0, none, 0, CA.zero⟩ M := by rw [← hm1]; exact ⟨Od.out, (ownI_nil _ _), (ownI_nil _ _), (OwnC.zero _ _)⟩
    have hcs : #[.int .i64 (v0 : Int), .int .i64 (v1 : Int), .int .i64 (v2 : Int), .int .i64 (v3 : Int), .int .i64 0, .int .i64 0, .bool false, .int .i64 0, .int .i64 0, .int .i64 (v4 : Int), .int .i64 (v5 : Int), .slice A6 v6.length k6, .int .i64 0, .int .i64 0, .slice none 0 0, .slice none 0 0, .int .i64 0, .int .i64 0, .int .i64 0, .int .i64 0, .int .i64 0, .slice none 0 0, .slice none 0 0, .slice none 0 0] = msgC ⟨A6, k6, none, 0, none, 0, CA.zero⟩ M := by rw [← hm1]; rfl
    have hMk : M.kind = (v0 : Int) := by rw [← hm1]
    have HOWN := Lib.hid hown
    have HCS := Lib.hid hcs
    have HMK := Lib.hid hMk
    rw [hs1] at HS
    clear hm1 hs1 hown hcs hMk
    have h0 : v0 ≠ 0 := by have := HC5.out; omega
    have r0 : ((v0 : Int) == 0) = false := by rw [beq_eq_false_iff_ne]; omega
    by_cases h1 : s' = some []
    · have hr : Mg.dec l = some M := by rw [HR.out, if_pos ⟨by rw [HMK.out]; omega, h1⟩]
      have he : Pk.endOf s' = true := by rw [h1]; rfl
      have HE := Lib.hid (HS.out.ends)
      rw [he] at HE
      clear h1 he
      go_upto_region 23 with (first
        | (go_at_call 51; refine HE.out.mono ?_; rintro en wq ⟨rfl, rfl⟩)
        | fail)
      go_wp2_with (first
        | (refine wpList_load_row rfl 29 (.tmp 5) rfl gm rfl 29 #[.int .i64 (v0 : Int), .int .i64 (v1 : Int), .int .i64 (v2 : Int), .int .i64 (v3 : Int), .int .i64 0, .int .i64 0, .bool false, .int .i64 0, .int .i64 0, .int .i64 (v4 : Int), .int .i64 (v5 : Int), .slice A6 v6.length k6, .int .i64 0, .int .i64 0, .slice none 0 0, .slice none 0 0, .int .i64 0, .int .i64 0, .int .i64 0, .int .i64 0, .int .i64 0, .slice none 0 0, .slice none 0 0, .slice none 0 0] (0, 0) _ HS.out.blk Try.underlying29 rfl (by kernel_rfl) ?_)
        | (refine wpList_store_row rfl 29 (.tmp 2) (.tmp 90) rfl gr #[.int .i64 (v0 : Int), .int .i64 (v1 : Int), .int .i64 (v2 : Int), .int .i64 (v3 : Int), .int .i64 0, .int .i64 0, .bool false, .int .i64 0, .int .i64 0, .int .i64 (v4 : Int), .int .i64 (v5 : Int), .slice A6 v6.length k6, .int .i64 0, .int .i64 0, .slice none 0 0, .slice none 0 0, .int .i64 0, .int .i64 0, .int .i64 0, .int .i64 0, .int .i64 0, .slice none 0 0, .slice none 0 0, .slice none 0 0] rfl rfl 29 msgZ HS.out.res (by kernel_rfl) rfl (by kernel_rfl) ?_)
        | fail)
      refine bodyPost_ret (results_cell_tmp rfl _ _ _ _ _ _ rfl (HS.out.res.row #[.int .i64 (v0 : Int), .int .i64 (v1 : Int), .int .i64 (v2 : Int), .int .i64 (v3 : Int), .int .i64 0, .int .i64 0, .bool false, .int .i64 0, .int .i64 0, .int .i64 (v4 : Int), .int .i64 (v5 : Int), .slice A6 v6.length k6, .int .i64 0, .int .i64 0, .slice none 0 0, .slice none 0 0, .int .i64 0, .int .i64 0, .int .i64 0, .int .i64 0, .int .i64 0, .slice none 0 0, .slice none 0 0, .slice none 0 0]) Try.underlying29 rfl (by kernel_rfl)) rfl ?_
      rw [hr]
      exact HEND.out wx (some M) _ M _ _ _ _ rfl HCS.out HS.out HOWN.out
    · have hr : Mg.dec l = none := by rw [HR.out, if_neg (fun h => h1 h.2)]
      have he : Pk.endOf s' = false := by
        cases s' with
        | none => rfl
        | some x => cases x with
          | nil => exact absurd rfl h1
          | cons y z => rfl
      have HE := Lib.hid (HS.out.ends)
      rw [he] at HE
      clear h1 he
      go_wp2_with (first
        | (go_at_call 51; refine HE.out.mono ?_; rintro en wq ⟨rfl, rfl⟩)
        | (refine wpList_store_row rfl 29 (.tmp 2) (.tmp 89) rfl gr #[.int .i64 0, .int .i64 0, .int .i64 0, .int .i64 0, .int .i64 0, .int .i64 0, .bool false, .int .i64 0, .int .i64 0, .int .i64 0, .int .i64 0, .slice none 0 0, .int .i64 0, .int .i64 0, .slice none 0 0, .slice none 0 0, .int .i64 0, .int .i64 0, .int .i64 0, .int .i64 0, .int .i64 0, .slice none 0 0, .slice none 0 0, .slice none 0 0] rfl rfl 29 msgZ HS.out.res (by kernel_rfl) rfl (by kernel_rfl) ?_)
        | fail)
      refine bodyPost_ret (results_cell_tmp rfl _ _ _ _ _ _ rfl (HS.out.res.row #[.int .i64 0, .int .i64 0, .int .i64 0, .int .i64 0, .int .i64 0, .int .i64 0, .bool false, .int .i64 0, .int .i64 0, .int .i64 0, .int .i64 0, .slice none 0 0, .int .i64 0, .int .i64 0, .slice none 0 0, .slice none 0 0, .int .i64 0, .int .i64 0, .int .i64 0, .int .i64 0, .int .i64 0, .slice none 0 0, .slice none 0 0, .slice none 0 0]) Try.underlying29 rfl (by kernel_rfl)) rfl ?_
      rw [hr]
      exact HEND.out wx none GA.zero Mg.zero _ _ _ _ rfl rfl HS.out (OwnG.zero _ _)
  by_cases c7 : v0 = 7
  · have s2_ : ((v0 : Int) == 2) = false := by rw [c7]; rfl
    have s3_ : ((v0 : Int) == 3) = false := by rw [c7]; rfl
    have s4_ : ((v0 : Int) == 4) = false := by rw [c7]; rfl
    have s5_ : ((v0 : Int) == 5) = false := by rw [c7]; rfl
    have s7_ : ((v0 : Int) == 7) = true := by rw [c7]; rfl
    have s8_ : ((v0 : Int) == 8) = false := by rw [c7]; rfl
    have HC7 := Lib.hid c7
    clear c2 c3 c4 c5 c7
    go_upto_region 15 with fail
    obtain ⟨v4, d4⟩ : ∃ x, Pk.numV st4 1099511627776 = x := ⟨_, rfl⟩
    obtain ⟨st5, e4⟩ : ∃ x, Pk.numS st4 1099511627776 = x := ⟨_, rfl⟩
    have D4 := Lib.hid d4
    have E4 := Lib.hid e4
    clear d4 e4
    obtain ⟨v5, d5⟩ : ∃ x, Pk.numV st5 1099511627776 = x := ⟨_, rfl⟩
    obtain ⟨st6, e5⟩ : ∃ x, Pk.numS st5 1099511627776 = x := ⟨_, rfl⟩
    have D5 := Lib.hid d5
    have E5 := Lib.hid e5
    clear d5 e5
    go_wp2_with fail
    refine (HS.out.num 1099511627776 D4.out E4.out).mono ?_
    rintro en wx ⟨rfl, hs, ho⟩
    have HS := Lib.hid hs
    clear hs ho
    go_wp2_with fail
    refine (HS.out.num 1099511627776 D5.out E5.out).mono ?_
    rintro en wx ⟨rfl, hs, ho⟩
    have HS := Lib.hid hs
    clear hs ho
    have x12 : wx.cell? ⟨gm, 12, none⟩ = some (.int .i64 0) := HS.out.blk.cell 12
    have f12 := HS.out.blk.frozen 12
    have x13 : wx.cell? ⟨gm, 13, none⟩ = some (.int .i64 0) := HS.out.blk.cell 13
    have f13 := HS.out.blk.frozen 13
    go_upto_region 16 with fail
    clear x12 f12 x13 f13
    have HS : Hid (DcSt wb ((wx.setCell ⟨gm, 12, none⟩ (.int .i64 (v4 : Int))).setCell ⟨gm, 13, none⟩ (.int .i64 (v5 : Int))) B gb gm gr #[.int .i64 (v0 : Int), .int .i64 (v1 : Int), .int .i64 (v2 : Int), .int .i64 (v3 : Int), .int .i64 0, .int .i64 0, .bool false, .int .i64 0, .int .i64 0, .int .i64 0, .int .i64 0, .slice none 0 0, .int .i64 (v4 : Int), .int .i64 (v5 : Int), .slice none 0 0, .slice none 0 0, .int .i64 0, .int .i64 0, .int .i64 0, .int .i64 0, .int .i64 0, .slice none 0 0, .slice none 0 0, .slice none 0 0] st6) := Lib.hid ((HS.out.put 12 (.int .i64 (v4 : Int))).put 13 (.int .i64 (v5 : Int)))
    generalize ((wx.setCell ⟨gm, 12, none⟩ (.int .i64 (v4 : Int))).setCell ⟨gm, 13, none⟩ (.int .i64 (v5 : Int))) = wx at HS ⊢
    obtain ⟨v6, d6⟩ : ∃ x, (stF 7 st6).1 = x := ⟨_, rfl⟩
    obtain ⟨st7, e6⟩ : ∃ x, (stF 7 st6).2 = x := ⟨_, rfl⟩
    have D6 := Lib.hid d6
    have E6 := Lib.hid e6
    clear d6 e6
    go_wp2_with fail
    refine (HS.out.nums (most := 7) (by omega) (by omega) D6.out E6.out).mono ?_
    rintro en wx ⟨A6, k6, rfl, hw, hs, ho⟩
    have HS := Lib.hid hs
    have Oh := Lib.hid hw
    clear hw
    clear hs ho
    have x14 : wx.cell? ⟨gm, 14, none⟩ = some (.slice none 0 0) := HS.out.blk.cell 14
    have f14 := HS.out.blk.frozen 14
    go_upto_region 17 with fail
    clear x14 f14
    have Oh : Hid (OwnI wb (wx.setCell ⟨gm, 14, none⟩ (.slice A6 v6.length k6)) A6 v6.length k6 v6) := Lib.hid (own_set_t Oh.out HS.out.blk (by decide))
    have HS : Hid (DcSt wb (wx.setCell ⟨gm, 14, none⟩ (.slice A6 v6.length k6)) B gb gm gr #[.int .i64 (v0 : Int), .int .i64 (v1 : Int), .int .i64 (v2 : Int), .int .i64 (v3 : Int), .int .i64 0, .int .i64 0, .bool false, .int .i64 0, .int .i64 0, .int .i64 0, .int .i64 0, .slice none 0 0, .int .i64 (v4 : Int), .int .i64 (v5 : Int), .slice A6 v6.length k6, .slice none 0 0, .int .i64 0, .int .i64 0, .int .i64 0, .int .i64 0, .int .i64 0, .slice none 0 0, .slice none 0 0, .slice none 0 0] st7) := Lib.hid (HS.out.put 14 (.slice A6 v6.length k6))
    generalize (wx.setCell ⟨gm, 14, none⟩ (.slice A6 v6.length k6)) = wx at HS Oh ⊢
    obtain ⟨v7, d7⟩ : ∃ x, (stF 8 st7).1 = x := ⟨_, rfl⟩
    obtain ⟨st8, e7⟩ : ∃ x, (stF 8 st7).2 = x := ⟨_, rfl⟩
    have D7 := Lib.hid d7
    have E7 := Lib.hid e7
    clear d7 e7
    go_wp2_with fail
    refine (HS.out.nums (most := 8) (by omega) (by omega) D7.out E7.out).mono ?_
    rintro en wx ⟨A7, k7, rfl, hw, hs, ho⟩
    have HS := Lib.hid hs
    have Oh := Lib.hid (own_old Oh.out ho (Old.some HBL.out))
    have On := Lib.hid hw
    clear hw
    clear hs ho
    have x15 : wx.cell? ⟨gm, 15, none⟩ = some (.slice none 0 0) := HS.out.blk.cell 15
    have f15 := HS.out.blk.frozen 15
    go_upto_region 21 with fail
    clear x15 f15
    have Oh : Hid (OwnI wb (wx.setCell ⟨gm, 15, none⟩ (.slice A7 v7.length k7)) A6 v6.length k6 v6) := Lib.hid (own_set_t Oh.out HS.out.blk (by decide))
    have On : Hid (OwnI wb (wx.setCell ⟨gm, 15, none⟩ (.slice A7 v7.length k7)) A7 v7.length k7 v7) := Lib.hid (own_set_t On.out HS.out.blk (by decide))
    have HS : Hid (DcSt wb (wx.setCell ⟨gm, 15, none⟩ (.slice A7 v7.length k7)) B gb gm gr #[.int .i64 (v0 : Int), .int .i64 (v1 : Int), .int .i64 (v2 : Int), .int .i64 (v3 : Int), .int .i64 0, .int .i64 0, .bool false, .int .i64 0, .int .i64 0, .int .i64 0, .int .i64 0, .slice none 0 0, .int .i64 (v4 : Int), .int .i64 (v5 : Int), .slice A6 v6.length k6, .slice A7 v7.length k7, .int .i64 0, .int .i64 0, .int .i64 0, .int .i64 0, .int .i64 0, .slice none 0 0, .slice none 0 0, .slice none 0 0] st8) := Lib.hid (HS.out.put 15 (.slice A7 v7.length k7))
    generalize (wx.setCell ⟨gm, 15, none⟩ (.slice A7 v7.length k7)) = wx at HS Oh On ⊢
    have z0 : wx.cell? ⟨gm, 0, none⟩ = some (.int .i64 (v0 : Int)) := HS.out.blk.cell 0
    have hget : Mg.get st0 = ((⟨(v0 : Int), (v1 : Int), (v2 : Int), (v3 : Int), 0, 0, false, 0, 0, 0, 0, [], (v4 : Int), (v5 : Int), v6, v7, 0, En.zero⟩ : Mg), st8) := by
      unfold Mg.get hd s4
      simp only [D0.out, E0.out, D1.out, E1.out, D2.out, E2.out, D3.out, E3.out, D4.out, E4.out, D5.out, E5.out, D6.out, E6.out, D7.out, E7.out]
      simp [HC7.out, Mg.zero]
    have hm1 : (⟨(v0 : Int), (v1 : Int), (v2 : Int), (v3 : Int), 0, 0, false, 0, 0, 0, 0, [], (v4 : Int), (v5 : Int), v6, v7, 0, En.zero⟩ : Mg) = M := by rw [← HMM.out, hget]
    have hs1 : st8 = s' := by rw [← HSS.out, hget]
    clear hget
    have hown : OwnG wb wx ⟨none, 0, A6, k6, A7, k7, CA.zero⟩ M := by rw [← hm1]; exact ⟨(own_nil _ _), Oh.out, On.out, (OwnC.zero _ _)⟩
    have hcs : #[.int .i64 (v0 : Int), .int .i64 (v1 : Int), .int .i64 (v2 : Int), .int .i64 (v3 : Int), .int .i64 0, .int .i64 0, .bool false, .int .i64 0, .int .i64 0, .int .i64 0, .int .i64 0, .slice none 0 0, .int .i64 (v4 : Int), .int .i64 (v5 : Int), .slice A6 v6.length k6, .slice A7 v7.length k7, .int .i64 0, .int .i64 0, .int .i64 0, .int .i64 0, .int .i64 0, .slice none 0 0, .slice none 0 0, .slice none 0 0] = msgC ⟨none, 0, A6, k6, A7, k7, CA.zero⟩ M := by rw [← hm1]; rfl
    have hMk : M.kind = (v0 : Int) := by rw [← hm1]
    have HOWN := Lib.hid hown
    have HCS := Lib.hid hcs
    have HMK := Lib.hid hMk
    rw [hs1] at HS
    clear hm1 hs1 hown hcs hMk
    have h0 : v0 ≠ 0 := by have := HC7.out; omega
    have r0 : ((v0 : Int) == 0) = false := by rw [beq_eq_false_iff_ne]; omega
    by_cases h1 : s' = some []
    · have hr : Mg.dec l = some M := by rw [HR.out, if_pos ⟨by rw [HMK.out]; omega, h1⟩]
      have he : Pk.endOf s' = true := by rw [h1]; rfl
      have HE := Lib.hid (HS.out.ends)
      rw [he] at HE
      clear h1 he
      go_upto_region 23 with (first
        | (go_at_call 51; refine HE.out.mono ?_; rintro en wq ⟨rfl, rfl⟩)
        | fail)
      go_wp2_with (first
        | (refine wpList_load_row rfl 29 (.tmp 5) rfl gm rfl 29 #[.int .i64 (v0 : Int), .int .i64 (v1 : Int), .int .i64 (v2 : Int), .int .i64 (v3 : Int), .int .i64 0, .int .i64 0, .bool false, .int .i64 0, .int .i64 0, .int .i64 0, .int .i64 0, .slice none 0 0, .int .i64 (v4 : Int), .int .i64 (v5 : Int), .slice A6 v6.length k6, .slice A7 v7.length k7, .int .i64 0, .int .i64 0, .int .i64 0, .int .i64 0, .int .i64 0, .slice none 0 0, .slice none 0 0, .slice none 0 0] (0, 0) _ HS.out.blk Try.underlying29 rfl (by kernel_rfl) ?_)
        | (refine wpList_store_row rfl 29 (.tmp 2) (.tmp 90) rfl gr #[.int .i64 (v0 : Int), .int .i64 (v1 : Int), .int .i64 (v2 : Int), .int .i64 (v3 : Int), .int .i64 0, .int .i64 0, .bool false, .int .i64 0, .int .i64 0, .int .i64 0, .int .i64 0, .slice none 0 0, .int .i64 (v4 : Int), .int .i64 (v5 : Int), .slice A6 v6.length k6, .slice A7 v7.length k7, .int .i64 0, .int .i64 0, .int .i64 0, .int .i64 0, .int .i64 0, .slice none 0 0, .slice none 0 0, .slice none 0 0] rfl rfl 29 msgZ HS.out.res (by kernel_rfl) rfl (by kernel_rfl) ?_)
        | fail)
      refine bodyPost_ret (results_cell_tmp rfl _ _ _ _ _ _ rfl (HS.out.res.row #[.int .i64 (v0 : Int), .int .i64 (v1 : Int), .int .i64 (v2 : Int), .int .i64 (v3 : Int), .int .i64 0, .int .i64 0, .bool false, .int .i64 0, .int .i64 0, .int .i64 0, .int .i64 0, .slice none 0 0, .int .i64 (v4 : Int), .int .i64 (v5 : Int), .slice A6 v6.length k6, .slice A7 v7.length k7, .int .i64 0, .int .i64 0, .int .i64 0, .int .i64 0, .int .i64 0, .slice none 0 0, .slice none 0 0, .slice none 0 0]) Try.underlying29 rfl (by kernel_rfl)) rfl ?_
      rw [hr]
      exact HEND.out wx (some M) _ M _ _ _ _ rfl HCS.out HS.out HOWN.out
    · have hr : Mg.dec l = none := by rw [HR.out, if_neg (fun h => h1 h.2)]
      have he : Pk.endOf s' = false := by
        cases s' with
        | none => rfl
        | some x => cases x with
          | nil => exact absurd rfl h1
          | cons y z => rfl
      have HE := Lib.hid (HS.out.ends)
      rw [he] at HE
      clear h1 he
      go_wp2_with (first
        | (go_at_call 51; refine HE.out.mono ?_; rintro en wq ⟨rfl, rfl⟩)
        | (refine wpList_store_row rfl 29 (.tmp 2) (.tmp 89) rfl gr #[.int .i64 0, .int .i64 0, .int .i64 0, .int .i64 0, .int .i64 0, .int .i64 0, .bool false, .int .i64 0, .int .i64 0, .int .i64 0, .int .i64 0, .slice none 0 0, .int .i64 0, .int .i64 0, .slice none 0 0, .slice none 0 0, .int .i64 0, .int .i64 0, .int .i64 0, .int .i64 0, .int .i64 0, .slice none 0 0, .slice none 0 0, .slice none 0 0] rfl rfl 29 msgZ HS.out.res (by kernel_rfl) rfl (by kernel_rfl) ?_)
        | fail)
      refine bodyPost_ret (results_cell_tmp rfl _ _ _ _ _ _ rfl (HS.out.res.row #[.int .i64 0, .int .i64 0, .int .i64 0, .int .i64 0, .int .i64 0, .int .i64 0, .bool false, .int .i64 0, .int .i64 0, .int .i64 0, .int .i64 0, .slice none 0 0, .int .i64 0, .int .i64 0, .slice none 0 0, .slice none 0 0, .int .i64 0, .int .i64 0, .int .i64 0, .int .i64 0, .int .i64 0, .slice none 0 0, .slice none 0 0, .slice none 0 0]) Try.underlying29 rfl (by kernel_rfl)) rfl ?_
      rw [hr]
      exact HEND.out wx none GA.zero Mg.zero _ _ _ _ rfl rfl HS.out (OwnG.zero _ _)
  by_cases c8 : v0 = 8
  · have s2_ : ((v0 : Int) == 2) = false := by rw [c8]; rfl
    have s3_ : ((v0 : Int) == 3) = false := by rw [c8]; rfl
    have s4_ : ((v0 : Int) == 4) = false := by rw [c8]; rfl
    have s5_ : ((v0 : Int) == 5) = false := by rw [c8]; rfl
    have s7_ : ((v0 : Int) == 7) = false := by rw [c8]; rfl
    have s8_ : ((v0 : Int) == 8) = true := by rw [c8]; rfl
    have HC8 := Lib.hid c8
    clear c2 c3 c4 c5 c7 c8
    go_upto_region 19 with fail
    obtain ⟨v4, d4⟩ : ∃ x, Pk.numV st4 1099511627776 = x := ⟨_, rfl⟩
    obtain ⟨st5, e4⟩ : ∃ x, Pk.numS st4 1099511627776 = x := ⟨_, rfl⟩
    have D4 := Lib.hid d4
    have E4 := Lib.hid e4
    clear d4 e4
    go_wp2_with fail
    refine (HS.out.num 1099511627776 D4.out E4.out).mono ?_
    rintro en wx ⟨rfl, hs, ho⟩
    have HS := Lib.hid hs
    clear hs ho
    have x16 : wx.cell? ⟨gm, 16, none⟩ = some (.int .i64 0) := HS.out.blk.cell 16
    have f16 := HS.out.blk.frozen 16
    go_upto_region 20 with fail
    clear x16 f16
    have HS : Hid (DcSt wb (wx.setCell ⟨gm, 16, none⟩ (.int .i64 (v4 : Int))) B gb gm gr #[.int .i64 (v0 : Int), .int .i64 (v1 : Int), .int .i64 (v2 : Int), .int .i64 (v3 : Int), .int .i64 0, .int .i64 0, .bool false, .int .i64 0, .int .i64 0, .int .i64 0, .int .i64 0, .slice none 0 0, .int .i64 0, .int .i64 0, .slice none 0 0, .slice none 0 0, .int .i64 (v4 : Int), .int .i64 0, .int .i64 0, .int .i64 0, .int .i64 0, .slice none 0 0, .slice none 0 0, .slice none 0 0] st5) := Lib.hid (HS.out.put 16 (.int .i64 (v4 : Int)))
    generalize (wx.setCell ⟨gm, 16, none⟩ (.int .i64 (v4 : Int))) = wx at HS ⊢
    obtain ⟨v5, d5⟩ : ∃ x, En.read st5 = x := ⟨_, rfl⟩
    obtain ⟨st6, e5⟩ : ∃ x, (En.get st5).2 = x := ⟨_, rfl⟩
    have D5 := Lib.hid d5
    have E5 := Lib.hid e5
    clear d5 e5
    go_wp2_with fail
    refine (HS.out.entry D5.out E5.out).mono ?_
    rintro en wx ⟨ca, rfl, hw, hs, ho⟩
    have HS := Lib.hid hs
    have Oc := Lib.hid hw
    clear hw
    clear hs ho
    have x17 : wx.cell? ⟨gm, 17, none⟩ = some (.int .i64 0) := HS.out.blk.cell 17
    have f17 := HS.out.blk.frozen 17
    have x18 : wx.cell? ⟨gm, 18, none⟩ = some (.int .i64 0) := HS.out.blk.cell 18
    have f18 := HS.out.blk.frozen 18
    have x19 : wx.cell? ⟨gm, 19, none⟩ = some (.int .i64 0) := HS.out.blk.cell 19
    have f19 := HS.out.blk.frozen 19
    have x20 : wx.cell? ⟨gm, 20, none⟩ = some (.int .i64 0) := HS.out.blk.cell 20
    have f20 := HS.out.blk.frozen 20
    have x21 : wx.cell? ⟨gm, 21, none⟩ = some (.slice none 0 0) := HS.out.blk.cell 21
    have f21 := HS.out.blk.frozen 21
    have x22 : wx.cell? ⟨gm, 22, none⟩ = some (.slice none 0 0) := HS.out.blk.cell 22
    have f22 := HS.out.blk.frozen 22
    have x23 : wx.cell? ⟨gm, 23, none⟩ = some (.slice none 0 0) := HS.out.blk.cell 23
    have f23 := HS.out.blk.frozen 23
    go_upto_region 21 with fail
    clear x17 f17 x18 f18 x19 f19 x20 f20 x21 f21 x22 f22 x23 f23
    have Oc : Hid (OwnC wb (((((((wx.setCell ⟨gm, 17, none⟩ (.int .i64 v5.s)).setCell ⟨gm, 18, none⟩ (.int .i64 v5.q)).setCell ⟨gm, 19, none⟩ (.int .i64 v5.c.kind)).setCell ⟨gm, 20, none⟩ (.int .i64 v5.c.who)).setCell ⟨gm, 21, none⟩ (.slice ca.Ak v5.c.key.length ca.ck)).setCell ⟨gm, 22, none⟩ (.slice ca.Av v5.c.val.length ca.cv)).setCell ⟨gm, 23, none⟩ (.slice ca.Ao v5.c.old.length ca.co)) ca v5.c) := Lib.hid ⟨(own_set_t (own_set_t (own_set_t (own_set_t (own_set_t (own_set_t (own_set_t Oc.out.k HS.out.blk (by decide)) (HS.out.put 17 (.int .i64 v5.s)).blk (by decide)) ((HS.out.put 17 (.int .i64 v5.s)).put 18 (.int .i64 v5.q)).blk (by decide)) (((HS.out.put 17 (.int .i64 v5.s)).put 18 (.int .i64 v5.q)).put 19 (.int .i64 v5.c.kind)).blk (by decide)) ((((HS.out.put 17 (.int .i64 v5.s)).put 18 (.int .i64 v5.q)).put 19 (.int .i64 v5.c.kind)).put 20 (.int .i64 v5.c.who)).blk (by decide)) (((((HS.out.put 17 (.int .i64 v5.s)).put 18 (.int .i64 v5.q)).put 19 (.int .i64 v5.c.kind)).put 20 (.int .i64 v5.c.who)).put 21 (.slice ca.Ak v5.c.key.length ca.ck)).blk (by decide)) ((((((HS.out.put 17 (.int .i64 v5.s)).put 18 (.int .i64 v5.q)).put 19 (.int .i64 v5.c.kind)).put 20 (.int .i64 v5.c.who)).put 21 (.slice ca.Ak v5.c.key.length ca.ck)).put 22 (.slice ca.Av v5.c.val.length ca.cv)).blk (by decide)), (own_set_t (own_set_t (own_set_t (own_set_t (own_set_t (own_set_t (own_set_t Oc.out.v HS.out.blk (by decide)) (HS.out.put 17 (.int .i64 v5.s)).blk (by decide)) ((HS.out.put 17 (.int .i64 v5.s)).put 18 (.int .i64 v5.q)).blk (by decide)) (((HS.out.put 17 (.int .i64 v5.s)).put 18 (.int .i64 v5.q)).put 19 (.int .i64 v5.c.kind)).blk (by decide)) ((((HS.out.put 17 (.int .i64 v5.s)).put 18 (.int .i64 v5.q)).put 19 (.int .i64 v5.c.kind)).put 20 (.int .i64 v5.c.who)).blk (by decide)) (((((HS.out.put 17 (.int .i64 v5.s)).put 18 (.int .i64 v5.q)).put 19 (.int .i64 v5.c.kind)).put 20 (.int .i64 v5.c.who)).put 21 (.slice ca.Ak v5.c.key.length ca.ck)).blk (by decide)) ((((((HS.out.put 17 (.int .i64 v5.s)).put 18 (.int .i64 v5.q)).put 19 (.int .i64 v5.c.kind)).put 20 (.int .i64 v5.c.who)).put 21 (.slice ca.Ak v5.c.key.length ca.ck)).put 22 (.slice ca.Av v5.c.val.length ca.cv)).blk (by decide)), (own_set_t (own_set_t (own_set_t (own_set_t (own_set_t (own_set_t (own_set_t Oc.out.o HS.out.blk (by decide)) (HS.out.put 17 (.int .i64 v5.s)).blk (by decide)) ((HS.out.put 17 (.int .i64 v5.s)).put 18 (.int .i64 v5.q)).blk (by decide)) (((HS.out.put 17 (.int .i64 v5.s)).put 18 (.int .i64 v5.q)).put 19 (.int .i64 v5.c.kind)).blk (by decide)) ((((HS.out.put 17 (.int .i64 v5.s)).put 18 (.int .i64 v5.q)).put 19 (.int .i64 v5.c.kind)).put 20 (.int .i64 v5.c.who)).blk (by decide)) (((((HS.out.put 17 (.int .i64 v5.s)).put 18 (.int .i64 v5.q)).put 19 (.int .i64 v5.c.kind)).put 20 (.int .i64 v5.c.who)).put 21 (.slice ca.Ak v5.c.key.length ca.ck)).blk (by decide)) ((((((HS.out.put 17 (.int .i64 v5.s)).put 18 (.int .i64 v5.q)).put 19 (.int .i64 v5.c.kind)).put 20 (.int .i64 v5.c.who)).put 21 (.slice ca.Ak v5.c.key.length ca.ck)).put 22 (.slice ca.Av v5.c.val.length ca.cv)).blk (by decide))⟩
    have HS : Hid (DcSt wb (((((((wx.setCell ⟨gm, 17, none⟩ (.int .i64 v5.s)).setCell ⟨gm, 18, none⟩ (.int .i64 v5.q)).setCell ⟨gm, 19, none⟩ (.int .i64 v5.c.kind)).setCell ⟨gm, 20, none⟩ (.int .i64 v5.c.who)).setCell ⟨gm, 21, none⟩ (.slice ca.Ak v5.c.key.length ca.ck)).setCell ⟨gm, 22, none⟩ (.slice ca.Av v5.c.val.length ca.cv)).setCell ⟨gm, 23, none⟩ (.slice ca.Ao v5.c.old.length ca.co)) B gb gm gr #[.int .i64 (v0 : Int), .int .i64 (v1 : Int), .int .i64 (v2 : Int), .int .i64 (v3 : Int), .int .i64 0, .int .i64 0, .bool false, .int .i64 0, .int .i64 0, .int .i64 0, .int .i64 0, .slice none 0 0, .int .i64 0, .int .i64 0, .slice none 0 0, .slice none 0 0, .int .i64 (v4 : Int), .int .i64 v5.s, .int .i64 v5.q, .int .i64 v5.c.kind, .int .i64 v5.c.who, .slice ca.Ak v5.c.key.length ca.ck, .slice ca.Av v5.c.val.length ca.cv, .slice ca.Ao v5.c.old.length ca.co] st6) := Lib.hid (((((((HS.out.put 17 (.int .i64 v5.s)).put 18 (.int .i64 v5.q)).put 19 (.int .i64 v5.c.kind)).put 20 (.int .i64 v5.c.who)).put 21 (.slice ca.Ak v5.c.key.length ca.ck)).put 22 (.slice ca.Av v5.c.val.length ca.cv)).put 23 (.slice ca.Ao v5.c.old.length ca.co))
    generalize (((((((wx.setCell ⟨gm, 17, none⟩ (.int .i64 v5.s)).setCell ⟨gm, 18, none⟩ (.int .i64 v5.q)).setCell ⟨gm, 19, none⟩ (.int .i64 v5.c.kind)).setCell ⟨gm, 20, none⟩ (.int .i64 v5.c.who)).setCell ⟨gm, 21, none⟩ (.slice ca.Ak v5.c.key.length ca.ck)).setCell ⟨gm, 22, none⟩ (.slice ca.Av v5.c.val.length ca.cv)).setCell ⟨gm, 23, none⟩ (.slice ca.Ao v5.c.old.length ca.co)) = wx at HS Oc ⊢
    have z0 : wx.cell? ⟨gm, 0, none⟩ = some (.int .i64 (v0 : Int)) := HS.out.blk.cell 0
    have hget : Mg.get st0 = ((⟨(v0 : Int), (v1 : Int), (v2 : Int), (v3 : Int), 0, 0, false, 0, 0, 0, 0, [], 0, 0, [], [], (v4 : Int), v5⟩ : Mg), st6) := by
      unfold Mg.get hd s4
      simp only [D0.out, E0.out, D1.out, E1.out, D2.out, E2.out, D3.out, E3.out, D4.out, E4.out, D5.out, E5.out]
      simp [HC8.out, Mg.zero]
    have hm1 : (⟨(v0 : Int), (v1 : Int), (v2 : Int), (v3 : Int), 0, 0, false, 0, 0, 0, 0, [], 0, 0, [], [], (v4 : Int), v5⟩ : Mg) = M := by rw [← HMM.out, hget]
    have hs1 : st6 = s' := by rw [← HSS.out, hget]
    clear hget
    have hown : OwnG wb wx ⟨none, 0, none, 0, none, 0, ca⟩ M := by rw [← hm1]; exact ⟨(own_nil _ _), (ownI_nil _ _), (ownI_nil _ _), Oc.out⟩
    have hcs : #[.int .i64 (v0 : Int), .int .i64 (v1 : Int), .int .i64 (v2 : Int), .int .i64 (v3 : Int), .int .i64 0, .int .i64 0, .bool false, .int .i64 0, .int .i64 0, .int .i64 0, .int .i64 0, .slice none 0 0, .int .i64 0, .int .i64 0, .slice none 0 0, .slice none 0 0, .int .i64 (v4 : Int), .int .i64 v5.s, .int .i64 v5.q, .int .i64 v5.c.kind, .int .i64 v5.c.who, .slice ca.Ak v5.c.key.length ca.ck, .slice ca.Av v5.c.val.length ca.cv, .slice ca.Ao v5.c.old.length ca.co] = msgC ⟨none, 0, none, 0, none, 0, ca⟩ M := by rw [← hm1]; rfl
    have hMk : M.kind = (v0 : Int) := by rw [← hm1]
    have HOWN := Lib.hid hown
    have HCS := Lib.hid hcs
    have HMK := Lib.hid hMk
    rw [hs1] at HS
    clear hm1 hs1 hown hcs hMk
    have h0 : v0 ≠ 0 := by have := HC8.out; omega
    have r0 : ((v0 : Int) == 0) = false := by rw [beq_eq_false_iff_ne]; omega
    by_cases h1 : s' = some []
    · have hr : Mg.dec l = some M := by rw [HR.out, if_pos ⟨by rw [HMK.out]; omega, h1⟩]
      have he : Pk.endOf s' = true := by rw [h1]; rfl
      have HE := Lib.hid (HS.out.ends)
      rw [he] at HE
      clear h1 he
      go_upto_region 23 with (first
        | (go_at_call 51; refine HE.out.mono ?_; rintro en wq ⟨rfl, rfl⟩)
        | fail)
      go_wp2_with (first
        | (refine wpList_load_row rfl 29 (.tmp 5) rfl gm rfl 29 #[.int .i64 (v0 : Int), .int .i64 (v1 : Int), .int .i64 (v2 : Int), .int .i64 (v3 : Int), .int .i64 0, .int .i64 0, .bool false, .int .i64 0, .int .i64 0, .int .i64 0, .int .i64 0, .slice none 0 0, .int .i64 0, .int .i64 0, .slice none 0 0, .slice none 0 0, .int .i64 (v4 : Int), .int .i64 v5.s, .int .i64 v5.q, .int .i64 v5.c.kind, .int .i64 v5.c.who, .slice ca.Ak v5.c.key.length ca.ck, .slice ca.Av v5.c.val.length ca.cv, .slice ca.Ao v5.c.old.length ca.co] (0, 0) _ HS.out.blk Try.underlying29 rfl (by kernel_rfl) ?_)
        | (refine wpList_store_row rfl 29 (.tmp 2) (.tmp 90) rfl gr #[.int .i64 (v0 : Int), .int .i64 (v1 : Int), .int .i64 (v2 : Int), .int .i64 (v3 : Int), .int .i64 0, .int .i64 0, .bool false, .int .i64 0, .int .i64 0, .int .i64 0, .int .i64 0, .slice none 0 0, .int .i64 0, .int .i64 0, .slice none 0 0, .slice none 0 0, .int .i64 (v4 : Int), .int .i64 v5.s, .int .i64 v5.q, .int .i64 v5.c.kind, .int .i64 v5.c.who, .slice ca.Ak v5.c.key.length ca.ck, .slice ca.Av v5.c.val.length ca.cv, .slice ca.Ao v5.c.old.length ca.co] rfl rfl 29 msgZ HS.out.res (by kernel_rfl) rfl (by kernel_rfl) ?_)
        | fail)
      refine bodyPost_ret (results_cell_tmp rfl _ _ _ _ _ _ rfl (HS.out.res.row #[.int .i64 (v0 : Int), .int .i64 (v1 : Int), .int .i64 (v2 : Int), .int .i64 (v3 : Int), .int .i64 0, .int .i64 0, .bool false, .int .i64 0, .int .i64 0, .int .i64 0, .int .i64 0, .slice none 0 0, .int .i64 0, .int .i64 0, .slice none 0 0, .slice none 0 0, .int .i64 (v4 : Int), .int .i64 v5.s, .int .i64 v5.q, .int .i64 v5.c.kind, .int .i64 v5.c.who, .slice ca.Ak v5.c.key.length ca.ck, .slice ca.Av v5.c.val.length ca.cv, .slice ca.Ao v5.c.old.length ca.co]) Try.underlying29 rfl (by kernel_rfl)) rfl ?_
      rw [hr]
      exact HEND.out wx (some M) _ M _ _ _ _ rfl HCS.out HS.out HOWN.out
    · have hr : Mg.dec l = none := by rw [HR.out, if_neg (fun h => h1 h.2)]
      have he : Pk.endOf s' = false := by
        cases s' with
        | none => rfl
        | some x => cases x with
          | nil => exact absurd rfl h1
          | cons y z => rfl
      have HE := Lib.hid (HS.out.ends)
      rw [he] at HE
      clear h1 he
      go_wp2_with (first
        | (go_at_call 51; refine HE.out.mono ?_; rintro en wq ⟨rfl, rfl⟩)
        | (refine wpList_store_row rfl 29 (.tmp 2) (.tmp 89) rfl gr #[.int .i64 0, .int .i64 0, .int .i64 0, .int .i64 0, .int .i64 0, .int .i64 0, .bool false, .int .i64 0, .int .i64 0, .int .i64 0, .int .i64 0, .slice none 0 0, .int .i64 0, .int .i64 0, .slice none 0 0, .slice none 0 0, .int .i64 0, .int .i64 0, .int .i64 0, .int .i64 0, .int .i64 0, .slice none 0 0, .slice none 0 0, .slice none 0 0] rfl rfl 29 msgZ HS.out.res (by kernel_rfl) rfl (by kernel_rfl) ?_)
        | fail)
      refine bodyPost_ret (results_cell_tmp rfl _ _ _ _ _ _ rfl (HS.out.res.row #[.int .i64 0, .int .i64 0, .int .i64 0, .int .i64 0, .int .i64 0, .int .i64 0, .bool false, .int .i64 0, .int .i64 0, .int .i64 0, .int .i64 0, .slice none 0 0, .int .i64 0, .int .i64 0, .slice none 0 0, .slice none 0 0, .int .i64 0, .int .i64 0, .int .i64 0, .int .i64 0, .int .i64 0, .slice none 0 0, .slice none 0 0, .slice none 0 0]) Try.underlying29 rfl (by kernel_rfl)) rfl ?_
      rw [hr]
      exact HEND.out wx none GA.zero Mg.zero _ _ _ _ rfl rfl HS.out (OwnG.zero _ _)
  have s2_ : ((v0 : Int) == 2) = false := by rw [beq_eq_false_iff_ne]; omega
  have s3_ : ((v0 : Int) == 3) = false := by rw [beq_eq_false_iff_ne]; omega
  have s4_ : ((v0 : Int) == 4) = false := by rw [beq_eq_false_iff_ne]; omega
  have s5_ : ((v0 : Int) == 5) = false := by rw [beq_eq_false_iff_ne]; omega
  have s7_ : ((v0 : Int) == 7) = false := by rw [beq_eq_false_iff_ne]; omega
  have s8_ : ((v0 : Int) == 8) = false := by rw [beq_eq_false_iff_ne]; omega
  have HC2 := Lib.hid c2
  have HC3 := Lib.hid c3
  have HC4 := Lib.hid c4
  have HC5 := Lib.hid c5
  have HC7 := Lib.hid c7
  have HC8 := Lib.hid c8
  clear c2 c3 c4 c5 c7 c8
  go_upto_region 21 with fail
  have z0 : wx.cell? ⟨gm, 0, none⟩ = some (.int .i64 (v0 : Int)) := HS.out.blk.cell 0
  have hget : Mg.get st0 = ((⟨(v0 : Int), (v1 : Int), (v2 : Int), (v3 : Int), 0, 0, false, 0, 0, 0, 0, [], 0, 0, [], [], 0, En.zero⟩ : Mg), st4) := by
    unfold Mg.get hd s4
    simp only [D0.out, E0.out, D1.out, E1.out, D2.out, E2.out, D3.out, E3.out]
    simp [HC2.out, HC3.out, HC4.out, HC5.out, HC7.out, HC8.out, Mg.zero]
  have hm1 : (⟨(v0 : Int), (v1 : Int), (v2 : Int), (v3 : Int), 0, 0, false, 0, 0, 0, 0, [], 0, 0, [], [], 0, En.zero⟩ : Mg) = M := by rw [← HMM.out, hget]
  have hs1 : st4 = s' := by rw [← HSS.out, hget]
  clear hget
  have hown : OwnG wb wx ⟨none, 0, none, 0, none, 0, CA.zero⟩ M := by rw [← hm1]; exact ⟨(own_nil _ _), (ownI_nil _ _), (ownI_nil _ _), (OwnC.zero _ _)⟩
  have hcs : #[.int .i64 (v0 : Int), .int .i64 (v1 : Int), .int .i64 (v2 : Int), .int .i64 (v3 : Int), .int .i64 0, .int .i64 0, .bool false, .int .i64 0, .int .i64 0, .int .i64 0, .int .i64 0, .slice none 0 0, .int .i64 0, .int .i64 0, .slice none 0 0, .slice none 0 0, .int .i64 0, .int .i64 0, .int .i64 0, .int .i64 0, .int .i64 0, .slice none 0 0, .slice none 0 0, .slice none 0 0] = msgC ⟨none, 0, none, 0, none, 0, CA.zero⟩ M := by rw [← hm1]; rfl
  have hMk : M.kind = (v0 : Int) := by rw [← hm1]
  have HOWN := Lib.hid hown
  have HCS := Lib.hid hcs
  have HMK := Lib.hid hMk
  rw [hs1] at HS
  clear hm1 hs1 hown hcs hMk
  by_cases h0 : v0 = 0
  · have hr : Mg.dec l = none := by rw [HR.out, if_neg (fun h => h.1 (by rw [HMK.out]; omega))]
    have r0 : ((v0 : Int) == 0) = true := by rw [beq_iff_eq]; omega
    have HE := Lib.hid (HS.out.ends)
    clear h0
    go_wp2_with (first
      | (go_at_call 51; refine HE.out.mono ?_; rintro en wq ⟨rfl, rfl⟩)
      | (refine wpList_store_row rfl 29 (.tmp 2) (.tmp 89) rfl gr #[.int .i64 0, .int .i64 0, .int .i64 0, .int .i64 0, .int .i64 0, .int .i64 0, .bool false, .int .i64 0, .int .i64 0, .int .i64 0, .int .i64 0, .slice none 0 0, .int .i64 0, .int .i64 0, .slice none 0 0, .slice none 0 0, .int .i64 0, .int .i64 0, .int .i64 0, .int .i64 0, .int .i64 0, .slice none 0 0, .slice none 0 0, .slice none 0 0] rfl rfl 29 msgZ HS.out.res (by kernel_rfl) rfl (by kernel_rfl) ?_)
      | fail)
    refine bodyPost_ret (results_cell_tmp rfl _ _ _ _ _ _ rfl (HS.out.res.row #[.int .i64 0, .int .i64 0, .int .i64 0, .int .i64 0, .int .i64 0, .int .i64 0, .bool false, .int .i64 0, .int .i64 0, .int .i64 0, .int .i64 0, .slice none 0 0, .int .i64 0, .int .i64 0, .slice none 0 0, .slice none 0 0, .int .i64 0, .int .i64 0, .int .i64 0, .int .i64 0, .int .i64 0, .slice none 0 0, .slice none 0 0, .slice none 0 0]) Try.underlying29 rfl (by kernel_rfl)) rfl ?_
    rw [hr]
    exact HEND.out wx none GA.zero Mg.zero _ _ _ _ rfl rfl HS.out (OwnG.zero _ _)
  · have r0 : ((v0 : Int) == 0) = false := by rw [beq_eq_false_iff_ne]; omega
    by_cases h1 : s' = some []
    · have hr : Mg.dec l = some M := by rw [HR.out, if_pos ⟨by rw [HMK.out]; omega, h1⟩]
      have he : Pk.endOf s' = true := by rw [h1]; rfl
      have HE := Lib.hid (HS.out.ends)
      rw [he] at HE
      clear h1 he
      go_upto_region 23 with (first
        | (go_at_call 51; refine HE.out.mono ?_; rintro en wq ⟨rfl, rfl⟩)
        | fail)
      go_wp2_with (first
        | (refine wpList_load_row rfl 29 (.tmp 5) rfl gm rfl 29 #[.int .i64 (v0 : Int), .int .i64 (v1 : Int), .int .i64 (v2 : Int), .int .i64 (v3 : Int), .int .i64 0, .int .i64 0, .bool false, .int .i64 0, .int .i64 0, .int .i64 0, .int .i64 0, .slice none 0 0, .int .i64 0, .int .i64 0, .slice none 0 0, .slice none 0 0, .int .i64 0, .int .i64 0, .int .i64 0, .int .i64 0, .int .i64 0, .slice none 0 0, .slice none 0 0, .slice none 0 0] (0, 0) _ HS.out.blk Try.underlying29 rfl (by kernel_rfl) ?_)
        | (refine wpList_store_row rfl 29 (.tmp 2) (.tmp 90) rfl gr #[.int .i64 (v0 : Int), .int .i64 (v1 : Int), .int .i64 (v2 : Int), .int .i64 (v3 : Int), .int .i64 0, .int .i64 0, .bool false, .int .i64 0, .int .i64 0, .int .i64 0, .int .i64 0, .slice none 0 0, .int .i64 0, .int .i64 0, .slice none 0 0, .slice none 0 0, .int .i64 0, .int .i64 0, .int .i64 0, .int .i64 0, .int .i64 0, .slice none 0 0, .slice none 0 0, .slice none 0 0] rfl rfl 29 msgZ HS.out.res (by kernel_rfl) rfl (by kernel_rfl) ?_)
        | fail)
      refine bodyPost_ret (results_cell_tmp rfl _ _ _ _ _ _ rfl (HS.out.res.row #[.int .i64 (v0 : Int), .int .i64 (v1 : Int), .int .i64 (v2 : Int), .int .i64 (v3 : Int), .int .i64 0, .int .i64 0, .bool false, .int .i64 0, .int .i64 0, .int .i64 0, .int .i64 0, .slice none 0 0, .int .i64 0, .int .i64 0, .slice none 0 0, .slice none 0 0, .int .i64 0, .int .i64 0, .int .i64 0, .int .i64 0, .int .i64 0, .slice none 0 0, .slice none 0 0, .slice none 0 0]) Try.underlying29 rfl (by kernel_rfl)) rfl ?_
      rw [hr]
      exact HEND.out wx (some M) _ M _ _ _ _ rfl HCS.out HS.out HOWN.out
    · have hr : Mg.dec l = none := by rw [HR.out, if_neg (fun h => h1 h.2)]
      have he : Pk.endOf s' = false := by
        cases s' with
        | none => rfl
        | some x => cases x with
          | nil => exact absurd rfl h1
          | cons y z => rfl
      have HE := Lib.hid (HS.out.ends)
      rw [he] at HE
      clear h1 he
      go_wp2_with (first
        | (go_at_call 51; refine HE.out.mono ?_; rintro en wq ⟨rfl, rfl⟩)
        | (refine wpList_store_row rfl 29 (.tmp 2) (.tmp 89) rfl gr #[.int .i64 0, .int .i64 0, .int .i64 0, .int .i64 0, .int .i64 0, .int .i64 0, .bool false, .int .i64 0, .int .i64 0, .int .i64 0, .int .i64 0, .slice none 0 0, .int .i64 0, .int .i64 0, .slice none 0 0, .slice none 0 0, .int .i64 0, .int .i64 0, .int .i64 0, .int .i64 0, .int .i64 0, .slice none 0 0, .slice none 0 0, .slice none 0 0] rfl rfl 29 msgZ HS.out.res (by kernel_rfl) rfl (by kernel_rfl) ?_)
        | fail)
      refine bodyPost_ret (results_cell_tmp rfl _ _ _ _ _ _ rfl (HS.out.res.row #[.int .i64 0, .int .i64 0, .int .i64 0, .int .i64 0, .int .i64 0, .int .i64 0, .bool false, .int .i64 0, .int .i64 0, .int .i64 0, .int .i64 0, .slice none 0 0, .int .i64 0, .int .i64 0, .slice none 0 0, .slice none 0 0, .int .i64 0, .int .i64 0, .int .i64 0, .int .i64 0, .int .i64 0, .slice none 0 0, .slice none 0 0, .slice none 0 0]) Try.underlying29 rfl (by kernel_rfl)) rfl ?_
      rw [hr]
      exact HEND.out wx none GA.zero Mg.zero _ _ _ _ rfl rfl HS.out (OwnG.zero _ _)
theorem refDecode11 {W w : World} {A : Option Addr} {n c B0 : Nat} {l : List Nat} {r : Option Mg} (he : Mg.dec l = r) (hl : l.length ≤ 2000000) (hb : ∀ x ∈ l, x < 256) (hc : n ≤ c ∧ c ≤ maxLen) (h : Rd w B0 A n (bv l)) (hB : Below W.heap.size W w) : Calls Try.prog 20 #[.slice A n c] w (GotG W w r) := by
  subst he
  exact (refDecode11_raw w hl hb hc h).mono fun e w' hh => GotG.of hB hh
end Go.Proofs.Ytlfkgpllleogoaa

