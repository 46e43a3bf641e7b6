/- BookMovesWalk -/
import Derived.Test.YtaknfmionkkdjaaFM09
import Derived.Test.YtaknfmionkkdjaaFM23
import Derived.Test.YtaknfmionkkdjaaFM36
import Derived.Test.YtaknfmionkkdjaaFM48
import Derived.Test.YtaknfmionkkdjaaFM52
import Derived.Test.YtaknfmionkkdjaaFM53
namespace Go.Proofs.Ytaknfmionkkdjaa
open Go.RowKit
set_option linter.unusedVariables false
namespace Bk
/-- entries of numbers -/
def es (zs : List Int) (n : Nat) : List En := (List.range n).map (fun (q : Nat) => entOf (zs.getD q 0) q)
theorem es_length (zs : List Int) (n : Nat) : (es zs n).length = n := by simp [es]
theorem es_succ (zs : List Int) (n : Nat) : es zs (n + 1) = es zs n ++ [entOf (zs.getD n 0) n] := by simp [es, List.range_succ]
end Bk
theorem run_min30 {P : Program} (w : World) (ts : Array TypeId) (t : TypeId) (n : Nat) : (Builtin.min_ ts t #[.int .i64 (n : Int), .int .i64 30]).run P w = .ok (.int .i64 ((min n 30 : Nat) : Int)) w := by
  have e : ((min n 30 : Nat) : Int) = if (30 : Int) < (n : Int) then 30 else (n : Int) := by omega
  rw [e]
  simp [Builtin.min_, Builtin.min2]
def dstBM (i : Nat) : Nat := ([49, 50, 51, 52, 53, 54, 55, 56, 57, 58, 59, 60, 61, 62, 63, 64, 65, 66, 67, 68, 69, 70, 71, 72, 73, 74, 75, 76, 77, 78, 79] : List Nat).getD i 0
def depsBM (i : Nat) : List Nat := ([[], [0], [], [2], [1, 3], [4], [5], [6, 5], [5], [8, 5], [7, 9, 5], [5, 10], [11], [12], [13, 12], [12], [15, 12], [14, 16, 12], [17, 12], [12, 18], [19], [20], [21, 20], [22, 20], [20], [24, 20], [20], [26, 20], [25, 27, 20], [23, 28, 20], [20, 29]] : List (List Nat)).getD i []
def FrBM (b1 b2 g11 : Nat) (P WH : Int) (R : Nat) (m : Mc) (Ar : Option Addr) (cr : Nat) (a : Act) : Prop := a.eval (.tmp 7) = .pointer (some ⟨b1, 0, none⟩) ∧ a.eval (.tmp 8) = .pointer (some ⟨b2, 0, none⟩) ∧ a.eval (.tmp 11) = .pointer (some ⟨g11, 0, none⟩)
def kindsBM (b1 b2 g11 : Nat) (P WH : Int) (R : Nat) (m : Mc) (Ar : Option Addr) (cr : Nat) : List KM := [.eq (.pointer (some ⟨b2, 0, none⟩)), .eq (.int .i64 P), .eq (.pointer (some ⟨b1, 0, none⟩)), .eq (.int .i64 P), .eq (.bool false), .eq (.bool false), .eq (.pointer (some ⟨b2, 0, none⟩)), .eq (.int .i64 WH), .eq (.pointer (some ⟨b1, 0, none⟩)), .eq (.int .i64 WH), .eq (.bool false), .eq (.bool false), .eq (.bool false), .eq (.pointer (some ⟨b2, 0, none⟩)), .mac m, .eq (.pointer (some ⟨b1, 0, none⟩)), .mac m, .eq (.bool true), .eq (.bool false), .eq (.bool false), .eq (.bool false), .eq (.pointer (some ⟨g11, 6, none⟩)), .eq (.slice Ar R cr), .eq (.int .i64 (R : Int)), .eq (.pointer (some ⟨b1, 0, none⟩)), .eq (.int .i64 WH), .eq (.pointer (some ⟨b1, 0, none⟩)), .eq (.int .i64 P), .eq (.int .i64 (R : Int)), .eq (.bool false), .eq (.bool false)]
def frameBM (b1 b2 g11 : Nat) (P WH : Int) (R : Nat) (m : Mc) (Ar : Option Addr) (cr : Nat) (x0 x1 x2 x3 x4 x5 x6 x9 x10 x12 x13 x14 x15 x16 x17 x18 x19 x20 x21 x22 x23 x24 x25 x26 x27 x28 x29 x30 x31 x32 x33 x34 x35 x36 x37 x38 x39 x40 x41 x42 x43 x44 x45 x46 x47 x48 x80 x81 x82 x83 x84 x85 x86 x87 x88 x89 x90 x91 x92 x93 x94 x95 x96 x97 x98 x99 x100 : Value) (U : Nat → Value) : Act := { tmps := List.toArray (x0 :: x1 :: x2 :: x3 :: x4 :: x5 :: x6 :: .pointer (some ⟨b1, 0, none⟩) :: .pointer (some ⟨b2, 0, none⟩) :: x9 :: x10 :: .pointer (some ⟨g11, 0, none⟩) :: x12 :: x13 :: x14 :: x15 :: x16 :: x17 :: x18 :: x19 :: x20 :: x21 :: x22 :: x23 :: x24 :: x25 :: x26 :: x27 :: x28 :: x29 :: x30 :: x31 :: x32 :: x33 :: x34 :: x35 :: x36 :: x37 :: x38 :: x39 :: x40 :: x41 :: x42 :: x43 :: x44 :: x45 :: x46 :: x47 :: x48 :: U 49 :: U 50 :: U 51 :: U 52 :: U 53 :: U 54 :: U 55 :: U 56 :: U 57 :: U 58 :: U 59 :: U 60 :: U 61 :: U 62 :: U 63 :: U 64 :: U 65 :: U 66 :: U 67 :: U 68 :: U 69 :: U 70 :: U 71 :: U 72 :: U 73 :: U 74 :: U 75 :: U 76 :: U 77 :: U 78 :: U 79 :: x80 :: x81 :: x82 :: x83 :: x84 :: x85 :: x86 :: x87 :: x88 :: x89 :: x90 :: x91 :: x92 :: x93 :: x94 :: x95 :: x96 :: x97 :: x98 :: x99 :: x100 :: []), defers := [] }
set_option maxHeartbeats 16000000 in
set_option maxRecDepth 100000 in
theorem bookMoves_walk (a0 : Option Addr) (len0 cap0 : Nat) (z0 : List Int) (a1 : Int) (a2 : Int) (w : World) (w0 : IsRow .i64 w a0 len0 cap0 z0) (w1 : (Lit.int .i64 a1).wf = true) (w2 : (Lit.int .i64 a2).wf = true) :
    Calls Try.prog 3 #[.slice a0 len0 cap0, .int .i64 a1, .int .i64 a2] w fun e w' => e = .returned (.bool true) ∧ Below w.heap.size w w' := by
  have hi := w0.ints
  obtain ⟨zs, hzs⟩ : ∃ x, z0.take len0 = x := ⟨_, rfl⟩
  rw [hzs] at hi
  have H0 := Lib.hid hi.1
  have hzl : zs.length = len0 := by have := hi.1.1; rwa [iv_length] at this
  have a31 := and_31 a1
  have a63 := and_63 a2
  obtain ⟨TA, hTA⟩ : ∃ T, a1 % 32 = T := ⟨_, rfl⟩
  obtain ⟨TB2, hTB⟩ : ∃ T, a2 % 64 = T := ⟨_, rfl⟩
  rw [hTA] at a31
  rw [hTB] at a63
  have hmin := fun (w : World) ts t => run_min30 (P := Try.prog) w ts t len0
  obtain ⟨N, hN⟩ : ∃ N, min len0 30 = N := ⟨_, rfl⟩
  rw [hN] at hmin
  have hN30 : (N : Int) ≤ 30 := by omega
  have HNL := Lib.hid (show N ≤ len0 by omega)
  have HZL := Lib.hid hzl
  have HNW := Lib.hid (bkNew w)
  clear w0 w1 w2 hi hzl hzs hTA hTB hN
  go_enter Try.func3, Try.ntmps3
  go_wp2_with fail
  refine HNW.out.mono ?_
  rintro en wa ⟨b1, S1, rfl, h1, hb1, hs1⟩
  have HNW2 := Lib.hid (bkNew wa)
  have HX1 := Lib.hid (And.intro h1 (And.intro hb1 hs1))
  clear h1 hb1 hs1
  go_wp2_with fail
  refine HNW2.out.mono ?_
  rintro en wb ⟨b2, S2, rfl, h2, hb2, hs2⟩
  have ht : Two w wb b1 b2 (Bk.loadL Mc.zero 0 (Bk.es zs 0)) Bk.new := by
    have e0 : Bk.loadL Mc.zero 0 (Bk.es zs 0) = Bk.new := Bk.load_zero
    rw [e0]
    refine ⟨S1, S2, HX1.out.1.below hb2, h2, fun q hq hq2 => ?_, fun q hq => ?_, HX1.out.2.1.trans (hb2.mono HX1.out.2.1.size)⟩
    · have := HX1.out.1.lt q hq; have := hs2 q hq2; omega
    · rcases hq with hq | hq
      · exact HX1.out.2.2 q hq
      · exact Nat.le_trans HX1.out.2.1.size (hs2 q hq)
  have HT := Lib.hid ht
  clear h2 hb2 hs2 ht HX1 HNW HNW2
  go_wp2_with fail
  go_loopw [10] (fun s10 wr => ∃ j : Nat, j ≤ N ∧ s10 = .int .i64 (j : Int) ∧ Hid (Two w wr b1 b2 (Bk.loadL Mc.zero 0 (Bk.es zs j)) Bk.new)) (fun s10 _ => N - (intOf s10).toNat)
  case atStart => exact ⟨0, Nat.zero_le _, rfl, HT⟩
  case round =>
    clear HT
    obtain ⟨j, hj, rfl, HT⟩ := hrel
    have hwj : IntKind.i64.wrap ((j : Int) + 1) = (j : Int) + 1 := IntWalk.i64_in _ (by omega)
    by_cases hlt : j < N
    · have hji : (j : Int) < (N : Int) := by omega
      have hj0 : (0 : Int) ≤ (j : Int) := by omega
      have hjl : j < len0 := by have := HNL.out; omega
      have hjli : (j : Int) < (len0 : Int) := by omega
      obtain ⟨z, hz⟩ : ∃ z, zs[j]? = some z := ⟨_, List.getElem?_eq_getElem (by have := HZL.out; omega)⟩
      have hb := HT.out.bel
      obtain ⟨zb, zo, rfl, _⟩ := H0.out.int_at hjl
      have hc := (H0.out.below hb).int_cell hjl hz
      have hzd : zs.getD j 0 = z := by rw [List.getD_eq_getElem?_getD, hz]; rfl
      have hmay := Bk.loadL_may Mc.zero 0 (Bk.es zs j)
      have hadd := Bk.loadL_add Mc.zero 0 (Bk.es zs j) (entOf z j)
      have hsc := Bk.es_succ zs j
      rw [hzd] at hsc
      rw [← hsc, Bk.es_length, show (0 : Int) + (j : Int) + 1 = (j : Int) + 1 by omega] at hadd
      rw [Bk.es_length, show (0 : Int) + (j : Int) + 1 = (j : Int) + 1 by omega] at hmay
      obtain ⟨e, he⟩ : ∃ e, entOf z j = e := ⟨_, rfl⟩
      have HE := Lib.hid (entN_any z j (by omega) wr)
      rw [he] at HE hadd
      have HAD := Lib.hid (fun wx (hx : Two w wx b1 b2 (Bk.loadL Mc.zero 0 (Bk.es zs j)) Bk.new) (ca : CA) (B : Nat) (hf : e.c.Fits) (hr : RdC wx B ca e.c) => hx.add ((j : Int) + 1) (B := B) hmay hadd hf hr (by show (0 : Int) + ((Bk.es zs j).length : Int) ≤ 0 + 90000; rw [Bk.es_length]; omega))
      clear hmay hadd hsc hzd hz hb he
      go_wp2_with fail
      refine HE.out.mono ?_
      rintro en wc ⟨ca, rfl, hf, hr, hb2⟩
      have HFR := Lib.hid (And.intro hf hr.rd)
      have HT2 := Lib.hid (HT.out.below hb2)
      clear hf hr hb2
      unfold entV
      go_wp2_with fail
      refine (HAD.out wc HT2.out _ _ HFR.out.1 HFR.out.2).mono ?_
      rintro en wd ⟨rfl, ht, _⟩
      have HT3 := Lib.hid ht
      clear ht
      go_wp2_with fail
      go_roundw
      case rel => exact ⟨j + 1, by omega, by go_num, HT3⟩
      case measure => simp only [intOf]; omega
    · have hji : ¬ (j : Int) < (N : Int) := by omega
      have hjN : j = N := by omega
      subst hjN
      obtain ⟨k0, hk0⟩ : ∃ k, Bk.loadL Mc.zero 0 (Bk.es zs j) = k := ⟨_, rfl⟩
      have hwh0 : k0.wh = (j : Int) := by rw [← hk0]; show (0 : Int) + ((Bk.es zs j).length : Int) = _; rw [Bk.es_length]; omega
      have hpos0 : k0.pos = 0 := by rw [← hk0]; rfl
      have hno0 : ∀ i, k0.wh < i → k0.f i = none := by rw [← hk0]; exact Bk.loadL_no _ _ _
      rw [hk0] at HT
      clear hk0 hj hlt
      obtain ⟨k1, hk1⟩ : ∃ k, k0.apply TA = k := ⟨_, rfl⟩
      have CA1 := Lib.hid (HT.out.apply TA hk1 rfl (by omega) (by omega))
      have hwh1 : k1.wh = (j : Int) := by rw [← hk1]; exact hwh0
      have hpos1 : 0 ≤ k1.pos := by rw [← hk1]; show (0 : Int) ≤ k0.pos + _; omega
      have hno1 : ∀ i, k1.wh < i → k1.f i = none := by rw [← hk1]; exact Bk.apply_no hno0 TA
      have HNO := Lib.hid hno1
      clear hk1 hwh0 hpos0 hno0 hno1
      go_wp2_with fail
      refine CA1.out.mono ?_
      rintro en wc ⟨A0, c0, rfl, _, ht, _⟩
      have HT1 := Lib.hid ht
      clear ht CA1 HT
      have hok1 := HT1.out.ok
      have hle1 := hok1.w.le
      have HOK1 := Lib.hid hok1
      obtain ⟨s, hs⟩ : ∃ s, k1.state = s := ⟨_, rfl⟩
      have hld : Bk.load s = k1 := by rw [← hs]; exact Bk.load_state k1 hok1 HNO.out
      have hsl : (s.rest.length : Int) = k1.wh - k1.pos := by
        rw [← hs]
        have hl : (Bk.rest k1.f (k1.wh - k1.pos).toNat k1.pos).length = (k1.wh - k1.pos).toNat := Bk.rest_len _ _ _
        show ((Bk.rest k1.f (k1.wh - k1.pos).toNat k1.pos).length : Int) = _
        omega
      have CS1 := Lib.hid (HT1.out.state hs (by omega))
      have HSF : Hid (s.m.Ok ∧ (∀ e ∈ s.rest, e.c.Fits) ∧ 0 ≤ s.pos ∧ s.pos ≤ 1099511627776 ∧ s.rest.length ≤ 1000) := Lib.hid (by
        refine ⟨by rw [← hs]; exact hok1.m, by rw [← hs]; exact Bk.state_fits hok1, by rw [← hs]; exact hpos1, by rw [← hs]; exact hok1.p1, by omega⟩)
      have HLD := Lib.hid hld
      obtain ⟨P, hP⟩ : ∃ P, k1.pos = P := ⟨_, rfl⟩
      obtain ⟨WH, hWH⟩ : ∃ P, k1.wh = P := ⟨_, rfl⟩
      obtain ⟨R, hR⟩ : ∃ R, s.rest.length = R := ⟨_, rfl⟩
      rw [hP, hWH, hR] at hsl
      rw [hWH] at hwh1
      rw [hP] at hpos1
      have hws : IntKind.i64.wrap (WH - P) = (R : Int) := by rw [IntWalk.i64_in _ (by omega)]; omega
      have HWS := Lib.hid hws
      have HPW := Lib.hid (And.intro hP (And.intro hWH hR))
      have HB40 : Hid (k1.wh ≤ k1.pos + 90000 ∧ k1.wh ≤ 1099511627776) := Lib.hid (by omega)
      clear hok1 hle1 hs hld hP hWH hR hws hwh1 hsl
      unfold stateV stateC at CS1
      go_wp2_with fail
      refine CS1.out.mono ?_
      rintro en wd ⟨sa, rfl, hos, hb2⟩
      have HOS := Lib.hid hos
      have HT2 := Lib.hid (HT1.out.below hb2)
      clear hos hb2 CS1 HT1
      go_upto_region 11 with (first
        | (refine wpList_store_row rfl 43 (.tmp 11) (.tmp 45) rfl wd.heap.size #[.int .i64 s.pos, .slice sa.m.o.A0 s.m.o.reg.length sa.m.o.c0, .slice sa.m.o.A1 s.m.o.q.length sa.m.o.c1, .slice sa.m.o.A2 s.m.o.lk.length sa.m.o.c2, .slice sa.m.o.A3 s.m.o.mp.length sa.m.o.c3, .slice sa.m.At s.m.t.length sa.m.ct, .slice sa.Ar s.rest.length sa.cr] rfl rfl 43 #[.int .i64 0, .slice none 0 0, .slice none 0 0, .slice none 0 0, .slice none 0 0, .slice none 0 0, .slice none 0 0] (Blk.new wd 43 #[.int .i64 0, .slice none 0 0, .slice none 0 0, .slice none 0 0, .slice none 0 0, .slice none 0 0, .slice none 0 0]) (by kernel_rfl) rfl (by kernel_rfl) ?_)
        | fail)
      obtain ⟨g11, we, hg5, hw5, hb5, hk5⟩ := boxed wd #[.int .i64 0, .slice none 0 0, .slice none 0 0, .slice none 0 0, .slice none 0 0, .slice none 0 0, .slice none 0 0] #[.int .i64 s.pos, .slice sa.m.o.A0 s.m.o.reg.length sa.m.o.c0, .slice sa.m.o.A1 s.m.o.q.length sa.m.o.c1, .slice sa.m.o.A2 s.m.o.lk.length sa.m.o.c2, .slice sa.m.o.A3 s.m.o.mp.length sa.m.o.c3, .slice sa.m.At s.m.t.length sa.m.ct, .slice sa.Ar s.rest.length sa.cr] 43
      rw [hg5, hw5]
      have HT3 := Lib.hid (HT2.out.below hb5)
      have HK11 := Lib.hid hk5
      have HOS3 := Lib.hid (HOS.out.below hb5)
      clear hg5 hw5 hb5 hk5 HT2 HOS
      have CL := Lib.hid (HT3.out.swap.load (a := sa) HLD.out HOS3.out.rd HSF.out.1 HSF.out.2.1 HSF.out.2.2.1 HSF.out.2.2.2.1 HSF.out.2.2.2.2)
      unfold stateV stateC at CL
      go_upto_region 12 with (first
        | (refine wpList_load_row rfl 43 (.tmp 11) rfl g11 rfl 43 #[.int .i64 s.pos, .slice sa.m.o.A0 s.m.o.reg.length sa.m.o.c0, .slice sa.m.o.A1 s.m.o.q.length sa.m.o.c1, .slice sa.m.o.A2 s.m.o.lk.length sa.m.o.c2, .slice sa.m.o.A3 s.m.o.mp.length sa.m.o.c3, .slice sa.m.At s.m.t.length sa.m.ct, .slice sa.Ar s.rest.length sa.cr] (0, 0) _ HK11.out Try.underlying43 rfl (by kernel_rfl) ?_)
        | (go_at_call 10; refine CL.out.mono ?_; rintro en wf ⟨rfl, ht, S9, hk9, ho9⟩
           have HT4 := Lib.hid ht.swap
           have HK4 := Lib.hid (HK11.out.keeps hk9 (ho9.not HK11.out (by decide)))
           clear ht hk9 ho9)
        | fail)
      clear CL HT3 HK11 HOS3
      obtain ⟨m, hm⟩ : ∃ m, k1.m = m := ⟨_, rfl⟩
      have HMO : Hid m.Ok := Lib.hid (by rw [← hm]; exact HOK1.out.m)
      obtain ⟨Ar, hAr⟩ : ∃ Ar, sa.Ar = Ar := ⟨_, rfl⟩
      obtain ⟨cr, hcr⟩ : ∃ cr, sa.cr = cr := ⟨_, rfl⟩
      have HST : Hid (∀ wx, Below wf.heap.size wf wx → wx.cell? ⟨g11, 6, none⟩ = some (.slice Ar R cr)) := Lib.hid (fun wx hb => by
        have q := (HK4.out.below hb).cell 6
        simp at q
        rw [q, HPW.out.2.2, hAr, hcr])
      have HT : Hid (((∀ wx, Below wf.heap.size wf wx → Calls Try.prog 11 #[.pointer (some ⟨b1, 0, none⟩)] wx fun e w' => e = .returned (.int .i64 P) ∧ wx = w') ∧ (∀ wx, Below wf.heap.size wf wx → Calls Try.prog 12 #[.pointer (some ⟨b1, 0, none⟩)] wx fun e w' => e = .returned (.int .i64 WH) ∧ wx = w') ∧ (∀ wx, Below wf.heap.size wf wx → Calls Try.prog 14 #[.pointer (some ⟨b1, 0, none⟩)] wx fun e w' => ∃ a', e = .returned (machV a' m) ∧ OwnM wx w' a' m ∧ Below wx.heap.size wx w')) ∧
          ((∀ wx, Below wf.heap.size wf wx → Calls Try.prog 11 #[.pointer (some ⟨b2, 0, none⟩)] wx fun e w' => e = .returned (.int .i64 P) ∧ wx = w') ∧ (∀ wx, Below wf.heap.size wf wx → Calls Try.prog 12 #[.pointer (some ⟨b2, 0, none⟩)] wx fun e w' => e = .returned (.int .i64 WH) ∧ wx = w') ∧ (∀ wx, Below wf.heap.size wf wx → Calls Try.prog 14 #[.pointer (some ⟨b2, 0, none⟩)] wx fun e w' => ∃ a', e = .returned (machV a' m) ∧ OwnM wx w' a' m ∧ Below wx.heap.size wx w'))) :=
        Lib.hid ⟨⟨fun wx hb => (HT4.out.below hb).at_ HPW.out.1, fun wx hb => (HT4.out.below hb).whole HPW.out.2.1, fun wx hb => (HT4.out.below hb).machine hm⟩, ⟨fun wx hb => (HT4.out.below hb).swap.at_ HPW.out.1, fun wx hb => (HT4.out.below hb).swap.whole HPW.out.2.1, fun wx hb => (HT4.out.below hb).swap.machine hm⟩⟩
      have CSM : Hid (∀ wx (a a' : MA) (B B' : Nat), RdM wx B a m → RdM wx B' a' m → Calls Try.prog 13 #[machV a m, machV a' m] wx fun e w' => e = .returned (.bool true) ∧ Below wx.heap.size wx w') := Lib.hid (fun wx a a' B B' h h' => (refSame_any wx HMO.out HMO.out h h').mono fun e w' q => ⟨by rw [q.1]; simp, q.2⟩)
      clear hAr hcr hm
      go_cut [79] from 49 to 79 (fun s79 wx => s79 = .bool false ∧ Hid (Below wf.heap.size wf wx))
      case first =>
        refine region_invB (U0 := fun _ => undef) (frameBM b1 b2 g11 P WH R m Ar cr _ _ _ _ _ _ _ _ _ _ _ _ _ _ _ _ _ _ _ _ _ _ _ _ _ _ _ _ _ _ _ _ _ _ _ _ _ _ _ _ _ _ _ _ _ _ _ _ _ _ _ _ _ _ _ _ _ _ _ _ _ _ _ _ _ _ _) dstBM depsBM (fun _ => true) (VM (kindsBM b1 b2 g11 P WH R m Ar cr)) (FrBM b1 b2 g11 P WH R m Ar cr) ?hm ?hb ?inj ?dst ?deps ?want ?put ?ev ?fr (VM.ext _) (Below.refl _ _) ?hok ?done
        case hok =>
          refine all_ops (AllFrom.cons ?s0 (AllFrom.cons ?s1 (AllFrom.cons ?s2 (AllFrom.cons ?s3 (AllFrom.cons ?s4 (AllFrom.cons ?s5 (AllFrom.cons ?s6 (AllFrom.cons ?s7 (AllFrom.cons ?s8 (AllFrom.cons ?s9 (AllFrom.cons ?s10 (AllFrom.cons ?s11 (AllFrom.cons ?s12 (AllFrom.cons ?s13 (AllFrom.cons ?s14 (AllFrom.cons ?s15 (AllFrom.cons ?s16 (AllFrom.cons ?s17 (AllFrom.cons ?s18 (AllFrom.cons ?s19 (AllFrom.cons ?s20 (AllFrom.cons ?s21 (AllFrom.cons ?s22 (AllFrom.cons ?s23 (AllFrom.cons ?s24 (AllFrom.cons ?s25 (AllFrom.cons ?s26 (AllFrom.cons ?s27 (AllFrom.cons ?s28 (AllFrom.cons ?s29 (AllFrom.cons ?s30 AllFrom.nil)))))))))))))))))))))))))))))))
          case s0 =>
            intro a w1 hF hB hdep K hK
            rw [if_pos rfl]
            have f8 : a.tmps[8]?.getD undef = .pointer (some ⟨b2, 0, none⟩) := ev_tmpM hF.2.1
            go_simp
            exact hK.out _ _ (Below.refl _ _) hB rfl
          case s1 =>
            intro a w1 hF hB hdep K hK
            rw [if_pos rfl]
            have e0 : a.tmps[49]?.getD undef = .pointer (some ⟨b2, 0, none⟩) := ev_tmpM (show a.eval (.tmp 49) = .pointer (some ⟨b2, 0, none⟩) from hdep 0 (by decide))
            go_simp
            go_at_call 11
            refine (HT.out.2.1 w1 hB).mono ?_
            rintro en w9 ⟨rfl, rfl⟩
            go_simp
            exact hK.out _ _ (Below.refl _ _) hB rfl
          case s2 =>
            intro a w1 hF hB hdep K hK
            rw [if_pos rfl]
            have f7 : a.tmps[7]?.getD undef = .pointer (some ⟨b1, 0, none⟩) := ev_tmpM hF.1
            go_simp
            exact hK.out _ _ (Below.refl _ _) hB rfl
          case s3 =>
            intro a w1 hF hB hdep K hK
            rw [if_pos rfl]
            have e2 : a.tmps[51]?.getD undef = .pointer (some ⟨b1, 0, none⟩) := ev_tmpM (show a.eval (.tmp 51) = .pointer (some ⟨b1, 0, none⟩) from hdep 2 (by decide))
            go_simp
            go_at_call 11
            refine (HT.out.1.1 w1 hB).mono ?_
            rintro en w9 ⟨rfl, rfl⟩
            go_simp
            exact hK.out _ _ (Below.refl _ _) hB rfl
          case s4 =>
            intro a w1 hF hB hdep K hK
            rw [if_pos rfl]
            have e1 : a.tmps[50]?.getD undef = .int .i64 P := ev_tmpM (show a.eval (.tmp 50) = .int .i64 P from hdep 1 (by decide))
            have e3 : a.tmps[52]?.getD undef = .int .i64 P := ev_tmpM (show a.eval (.tmp 52) = .int .i64 P from hdep 3 (by decide))
            go_simp
            exact hK.out _ _ (Below.refl _ _) hB rfl
          case s5 =>
            intro a w1 hF hB hdep K hK
            rw [if_pos rfl]
            have e4 : a.tmps[53]?.getD undef = .bool false := ev_tmpM (show a.eval (.tmp 53) = .bool false from hdep 4 (by decide))
            go_simp
            exact hK.out _ _ (Below.refl _ _) hB rfl
          case s6 =>
            intro a w1 hF hB hdep K hK
            rw [if_pos rfl]
            have f8 : a.tmps[8]?.getD undef = .pointer (some ⟨b2, 0, none⟩) := ev_tmpM hF.2.1
            go_simp
            exact hK.out _ _ (Below.refl _ _) hB rfl
          case s7 =>
            intro a w1 hF hB hdep K hK
            rw [if_pos rfl]
            have e6 : a.tmps[55]?.getD undef = .pointer (some ⟨b2, 0, none⟩) := ev_tmpM (show a.eval (.tmp 55) = .pointer (some ⟨b2, 0, none⟩) from hdep 6 (by decide))
            go_simp
            go_at_call 12
            refine (HT.out.2.2.1 w1 hB).mono ?_
            rintro en w9 ⟨rfl, rfl⟩
            go_simp
            exact hK.out _ _ (Below.refl _ _) hB rfl
          case s8 =>
            intro a w1 hF hB hdep K hK
            rw [if_pos rfl]
            have f7 : a.tmps[7]?.getD undef = .pointer (some ⟨b1, 0, none⟩) := ev_tmpM hF.1
            go_simp
            exact hK.out _ _ (Below.refl _ _) hB rfl
          case s9 =>
            intro a w1 hF hB hdep K hK
            rw [if_pos rfl]
            have e8 : a.tmps[57]?.getD undef = .pointer (some ⟨b1, 0, none⟩) := ev_tmpM (show a.eval (.tmp 57) = .pointer (some ⟨b1, 0, none⟩) from hdep 8 (by decide))
            go_simp
            go_at_call 12
            refine (HT.out.1.2.1 w1 hB).mono ?_
            rintro en w9 ⟨rfl, rfl⟩
            go_simp
            exact hK.out _ _ (Below.refl _ _) hB rfl
          case s10 =>
            intro a w1 hF hB hdep K hK
            rw [if_pos rfl]
            have e7 : a.tmps[56]?.getD undef = .int .i64 WH := ev_tmpM (show a.eval (.tmp 56) = .int .i64 WH from hdep 7 (by decide))
            have e9 : a.tmps[58]?.getD undef = .int .i64 WH := ev_tmpM (show a.eval (.tmp 58) = .int .i64 WH from hdep 9 (by decide))
            go_simp
            exact hK.out _ _ (Below.refl _ _) hB rfl
          case s11 =>
            intro a w1 hF hB hdep K hK
            rw [if_pos rfl]
            have e5 : a.tmps[54]?.getD undef = .bool false := ev_tmpM (show a.eval (.tmp 54) = .bool false from hdep 5 (by decide))
            have e10 : a.tmps[59]?.getD undef = .bool false := ev_tmpM (show a.eval (.tmp 59) = .bool false from hdep 10 (by decide))
            go_simp
            exact hK.out _ _ (Below.refl _ _) hB rfl
          case s12 =>
            intro a w1 hF hB hdep K hK
            rw [if_pos rfl]
            have e11 : a.tmps[60]?.getD undef = .bool false := ev_tmpM (show a.eval (.tmp 60) = .bool false from hdep 11 (by decide))
            go_simp
            exact hK.out _ _ (Below.refl _ _) hB rfl
          case s13 =>
            intro a w1 hF hB hdep K hK
            rw [if_pos rfl]
            have f8 : a.tmps[8]?.getD undef = .pointer (some ⟨b2, 0, none⟩) := ev_tmpM hF.2.1
            go_simp
            exact hK.out _ _ (Below.refl _ _) hB rfl
          case s14 =>
            intro a w1 hF hB hdep K hK
            rw [if_pos rfl]
            have e13 : a.tmps[62]?.getD undef = .pointer (some ⟨b2, 0, none⟩) := ev_tmpM (show a.eval (.tmp 62) = .pointer (some ⟨b2, 0, none⟩) from hdep 13 (by decide))
            go_simp
            go_at_call 14
            refine (HT.out.2.2.2 w1 hB).mono ?_
            rintro en w9 ⟨a9, rfl, ho9, hb9⟩
            go_simp
            exact hK.out _ _ hb9 (hB.trans (hb9.mono hB.size)) ⟨a9, rfl, ho9.rd⟩
          case s15 =>
            intro a w1 hF hB hdep K hK
            rw [if_pos rfl]
            have f7 : a.tmps[7]?.getD undef = .pointer (some ⟨b1, 0, none⟩) := ev_tmpM hF.1
            go_simp
            exact hK.out _ _ (Below.refl _ _) hB rfl
          case s16 =>
            intro a w1 hF hB hdep K hK
            rw [if_pos rfl]
            have e15 : a.tmps[64]?.getD undef = .pointer (some ⟨b1, 0, none⟩) := ev_tmpM (show a.eval (.tmp 64) = .pointer (some ⟨b1, 0, none⟩) from hdep 15 (by decide))
            go_simp
            go_at_call 14
            refine (HT.out.1.2.2 w1 hB).mono ?_
            rintro en w9 ⟨a9, rfl, ho9, hb9⟩
            go_simp
            exact hK.out _ _ hb9 (hB.trans (hb9.mono hB.size)) ⟨a9, rfl, ho9.rd⟩
          case s17 =>
            intro a w1 hF hB hdep K hK
            rw [if_pos rfl]
            obtain ⟨am14, em14, hm14⟩ : ∃ am, a.eval (.tmp 63) = machV am m ∧ RdM w1 w1.heap.size am m := hdep 14 (by decide)
            have e14 := ev_tmpM em14
            obtain ⟨am16, em16, hm16⟩ : ∃ am, a.eval (.tmp 65) = machV am m ∧ RdM w1 w1.heap.size am m := hdep 16 (by decide)
            have e16 := ev_tmpM em16
            go_simp
            go_at_call 13
            refine (CSM.out w1 _ _ _ _ hm14 hm16).mono ?_
            rintro en w9 ⟨rfl, hb9⟩
            go_simp
            exact hK.out _ _ hb9 (hB.trans (hb9.mono hB.size)) rfl
          case s18 =>
            intro a w1 hF hB hdep K hK
            rw [if_pos rfl]
            have e17 : a.tmps[66]?.getD undef = .bool true := ev_tmpM (show a.eval (.tmp 66) = .bool true from hdep 17 (by decide))
            go_simp
            exact hK.out _ _ (Below.refl _ _) hB rfl
          case s19 =>
            intro a w1 hF hB hdep K hK
            rw [if_pos rfl]
            have e12 : a.tmps[61]?.getD undef = .bool false := ev_tmpM (show a.eval (.tmp 61) = .bool false from hdep 12 (by decide))
            have e18 : a.tmps[67]?.getD undef = .bool false := ev_tmpM (show a.eval (.tmp 67) = .bool false from hdep 18 (by decide))
            go_simp
            exact hK.out _ _ (Below.refl _ _) hB rfl
          case s20 =>
            intro a w1 hF hB hdep K hK
            rw [if_pos rfl]
            have e19 : a.tmps[68]?.getD undef = .bool false := ev_tmpM (show a.eval (.tmp 68) = .bool false from hdep 19 (by decide))
            go_simp
            exact hK.out _ _ (Below.refl _ _) hB rfl
          case s21 =>
            intro a w1 hF hB hdep K hK
            rw [if_pos rfl]
            have f11 : a.tmps[11]?.getD undef = .pointer (some ⟨g11, 0, none⟩) := ev_tmpM hF.2.2
            go_simp
            exact hK.out _ _ (Below.refl _ _) hB rfl
          case s22 =>
            intro a w1 hF hB hdep K hK
            rw [if_pos rfl]
            have e21 : a.tmps[70]?.getD undef = .pointer (some ⟨g11, 6, none⟩) := ev_tmpM (show a.eval (.tmp 70) = .pointer (some ⟨g11, 6, none⟩) from hdep 21 (by decide))
            have q6 := HST.out w1 hB
            go_simp
            exact hK.out _ _ (Below.refl _ _) hB rfl
          case s23 =>
            intro a w1 hF hB hdep K hK
            rw [if_pos rfl]
            have e22 : a.tmps[71]?.getD undef = .slice Ar R cr := ev_tmpM (show a.eval (.tmp 71) = .slice Ar R cr from hdep 22 (by decide))
            go_simp
            exact hK.out _ _ (Below.refl _ _) hB rfl
          case s24 =>
            intro a w1 hF hB hdep K hK
            rw [if_pos rfl]
            have f7 : a.tmps[7]?.getD undef = .pointer (some ⟨b1, 0, none⟩) := ev_tmpM hF.1
            go_simp
            exact hK.out _ _ (Below.refl _ _) hB rfl
          case s25 =>
            intro a w1 hF hB hdep K hK
            rw [if_pos rfl]
            have e24 : a.tmps[73]?.getD undef = .pointer (some ⟨b1, 0, none⟩) := ev_tmpM (show a.eval (.tmp 73) = .pointer (some ⟨b1, 0, none⟩) from hdep 24 (by decide))
            go_simp
            go_at_call 12
            refine (HT.out.1.2.1 w1 hB).mono ?_
            rintro en w9 ⟨rfl, rfl⟩
            go_simp
            exact hK.out _ _ (Below.refl _ _) hB rfl
          case s26 =>
            intro a w1 hF hB hdep K hK
            rw [if_pos rfl]
            have f7 : a.tmps[7]?.getD undef = .pointer (some ⟨b1, 0, none⟩) := ev_tmpM hF.1
            go_simp
            exact hK.out _ _ (Below.refl _ _) hB rfl
          case s27 =>
            intro a w1 hF hB hdep K hK
            rw [if_pos rfl]
            have e26 : a.tmps[75]?.getD undef = .pointer (some ⟨b1, 0, none⟩) := ev_tmpM (show a.eval (.tmp 75) = .pointer (some ⟨b1, 0, none⟩) from hdep 26 (by decide))
            go_simp
            go_at_call 11
            refine (HT.out.1.1 w1 hB).mono ?_
            rintro en w9 ⟨rfl, rfl⟩
            go_simp
            exact hK.out _ _ (Below.refl _ _) hB rfl
          case s28 =>
            intro a w1 hF hB hdep K hK
            rw [if_pos rfl]
            have e25 : a.tmps[74]?.getD undef = .int .i64 WH := ev_tmpM (show a.eval (.tmp 74) = .int .i64 WH from hdep 25 (by decide))
            have e27 : a.tmps[76]?.getD undef = .int .i64 P := ev_tmpM (show a.eval (.tmp 76) = .int .i64 P from hdep 27 (by decide))
            have hws := HWS.out
            go_simp
            exact hK.out _ _ (Below.refl _ _) hB rfl
          case s29 =>
            intro a w1 hF hB hdep K hK
            rw [if_pos rfl]
            have e23 : a.tmps[72]?.getD undef = .int .i64 (R : Int) := ev_tmpM (show a.eval (.tmp 72) = .int .i64 (R : Int) from hdep 23 (by decide))
            have e28 : a.tmps[77]?.getD undef = .int .i64 (R : Int) := ev_tmpM (show a.eval (.tmp 77) = .int .i64 (R : Int) from hdep 28 (by decide))
            go_simp
            exact hK.out _ _ (Below.refl _ _) hB rfl
          case s30 =>
            intro a w1 hF hB hdep K hK
            rw [if_pos rfl]
            have e20 : a.tmps[69]?.getD undef = .bool false := ev_tmpM (show a.eval (.tmp 69) = .bool false from hdep 20 (by decide))
            have e29 : a.tmps[78]?.getD undef = .bool false := ev_tmpM (show a.eval (.tmp 78) = .bool false from hdep 29 (by decide))
            go_simp
            exact hK.out _ _ (Below.refl _ _) hB rfl
        case hm => kernel_rfl
        case hb => kernel_rfl
        case inj =>
          intro i j hi hj h
          have h1 : ((List.range 31).all fun i => (List.range 31).all fun j => !(dstBM i == dstBM j) || (i == j)) = true := by kernel_rfl
          have h2 := List.all_eq_true.1 (List.all_eq_true.1 h1 i (List.mem_range.2 hi)) j (List.mem_range.2 hj)
          simpa [h] using h2
        case dst => exact all_ops (AllFrom.cons rfl (AllFrom.cons rfl (AllFrom.cons rfl (AllFrom.cons rfl (AllFrom.cons rfl (AllFrom.cons rfl (AllFrom.cons rfl (AllFrom.cons rfl (AllFrom.cons rfl (AllFrom.cons rfl (AllFrom.cons rfl (AllFrom.cons rfl (AllFrom.cons rfl (AllFrom.cons rfl (AllFrom.cons rfl (AllFrom.cons rfl (AllFrom.cons rfl (AllFrom.cons rfl (AllFrom.cons rfl (AllFrom.cons rfl (AllFrom.cons rfl (AllFrom.cons rfl (AllFrom.cons rfl (AllFrom.cons rfl (AllFrom.cons rfl (AllFrom.cons rfl (AllFrom.cons rfl (AllFrom.cons rfl (AllFrom.cons rfl (AllFrom.cons rfl (AllFrom.cons rfl AllFrom.nil)))))))))))))))))))))))))))))))
        case deps =>
          intro i hi j hj
          refine deps_ofM (deps := depsBM) ?_ i hi j hj
          kernel_rfl
        case want => exact all_ops (AllFrom.cons (fun U w hd => rfl) (AllFrom.cons (fun U w hd => rfl) (AllFrom.cons (fun U w hd => rfl) (AllFrom.cons (fun U w hd => rfl) (AllFrom.cons (fun U w hd => rfl) (AllFrom.cons (fun U w hd => rfl) (AllFrom.cons (fun U w hd => wanted_ofM rfl (yielded_ofM (s := 54) (b := false) rfl ((show _ = some (U 54) from by kernel_rfl).trans (congrArg some (show U 54 = .bool false from hd 5 (by decide))))) rfl) (AllFrom.cons (fun U w hd => wanted_ofM rfl (yielded_ofM (s := 54) (b := false) rfl ((show _ = some (U 54) from by kernel_rfl).trans (congrArg some (show U 54 = .bool false from hd 5 (by decide))))) rfl) (AllFrom.cons (fun U w hd => wanted_ofM rfl (yielded_ofM (s := 54) (b := false) rfl ((show _ = some (U 54) from by kernel_rfl).trans (congrArg some (show U 54 = .bool false from hd 5 (by decide))))) rfl) (AllFrom.cons (fun U w hd => wanted_ofM rfl (yielded_ofM (s := 54) (b := false) rfl ((show _ = some (U 54) from by kernel_rfl).trans (congrArg some (show U 54 = .bool false from hd 5 (by decide))))) rfl) (AllFrom.cons (fun U w hd => wanted_ofM rfl (yielded_ofM (s := 54) (b := false) rfl ((show _ = some (U 54) from by kernel_rfl).trans (congrArg some (show U 54 = .bool false from hd 5 (by decide))))) rfl) (AllFrom.cons (fun U w hd => rfl) (AllFrom.cons (fun U w hd => rfl) (AllFrom.cons (fun U w hd => wanted_ofM rfl (yielded_ofM (s := 61) (b := false) rfl ((show _ = some (U 61) from by kernel_rfl).trans (congrArg some (show U 61 = .bool false from hd 12 (by decide))))) rfl) (AllFrom.cons (fun U w hd => wanted_ofM rfl (yielded_ofM (s := 61) (b := false) rfl ((show _ = some (U 61) from by kernel_rfl).trans (congrArg some (show U 61 = .bool false from hd 12 (by decide))))) rfl) (AllFrom.cons (fun U w hd => wanted_ofM rfl (yielded_ofM (s := 61) (b := false) rfl ((show _ = some (U 61) from by kernel_rfl).trans (congrArg some (show U 61 = .bool false from hd 12 (by decide))))) rfl) (AllFrom.cons (fun U w hd => wanted_ofM rfl (yielded_ofM (s := 61) (b := false) rfl ((show _ = some (U 61) from by kernel_rfl).trans (congrArg some (show U 61 = .bool false from hd 12 (by decide))))) rfl) (AllFrom.cons (fun U w hd => wanted_ofM rfl (yielded_ofM (s := 61) (b := false) rfl ((show _ = some (U 61) from by kernel_rfl).trans (congrArg some (show U 61 = .bool false from hd 12 (by decide))))) rfl) (AllFrom.cons (fun U w hd => wanted_ofM rfl (yielded_ofM (s := 61) (b := false) rfl ((show _ = some (U 61) from by kernel_rfl).trans (congrArg some (show U 61 = .bool false from hd 12 (by decide))))) rfl) (AllFrom.cons (fun U w hd => rfl) (AllFrom.cons (fun U w hd => rfl) (AllFrom.cons (fun U w hd => wanted_ofM rfl (yielded_ofM (s := 69) (b := false) rfl ((show _ = some (U 69) from by kernel_rfl).trans (congrArg some (show U 69 = .bool false from hd 20 (by decide))))) rfl) (AllFrom.cons (fun U w hd => wanted_ofM rfl (yielded_ofM (s := 69) (b := false) rfl ((show _ = some (U 69) from by kernel_rfl).trans (congrArg some (show U 69 = .bool false from hd 20 (by decide))))) rfl) (AllFrom.cons (fun U w hd => wanted_ofM rfl (yielded_ofM (s := 69) (b := false) rfl ((show _ = some (U 69) from by kernel_rfl).trans (congrArg some (show U 69 = .bool false from hd 20 (by decide))))) rfl) (AllFrom.cons (fun U w hd => wanted_ofM rfl (yielded_ofM (s := 69) (b := false) rfl ((show _ = some (U 69) from by kernel_rfl).trans (congrArg some (show U 69 = .bool false from hd 20 (by decide))))) rfl) (AllFrom.cons (fun U w hd => wanted_ofM rfl (yielded_ofM (s := 69) (b := false) rfl ((show _ = some (U 69) from by kernel_rfl).trans (congrArg some (show U 69 = .bool false from hd 20 (by decide))))) rfl) (AllFrom.cons (fun U w hd => wanted_ofM rfl (yielded_ofM (s := 69) (b := false) rfl ((show _ = some (U 69) from by kernel_rfl).trans (congrArg some (show U 69 = .bool false from hd 20 (by decide))))) rfl) (AllFrom.cons (fun U w hd => wanted_ofM rfl (yielded_ofM (s := 69) (b := false) rfl ((show _ = some (U 69) from by kernel_rfl).trans (congrArg some (show U 69 = .bool false from hd 20 (by decide))))) rfl) (AllFrom.cons (fun U w hd => wanted_ofM rfl (yielded_ofM (s := 69) (b := false) rfl ((show _ = some (U 69) from by kernel_rfl).trans (congrArg some (show U 69 = .bool false from hd 20 (by decide))))) rfl) (AllFrom.cons (fun U w hd => wanted_ofM rfl (yielded_ofM (s := 69) (b := false) rfl ((show _ = some (U 69) from by kernel_rfl).trans (congrArg some (show U 69 = .bool false from hd 20 (by decide))))) rfl) (AllFrom.cons (fun U w hd => rfl) AllFrom.nil)))))))))))))))))))))))))))))))
        case put => exact all_ops (AllFrom.cons (fun _ _ => by kernel_rfl) (AllFrom.cons (fun _ _ => by kernel_rfl) (AllFrom.cons (fun _ _ => by kernel_rfl) (AllFrom.cons (fun _ _ => by kernel_rfl) (AllFrom.cons (fun _ _ => by kernel_rfl) (AllFrom.cons (fun _ _ => by kernel_rfl) (AllFrom.cons (fun _ _ => by kernel_rfl) (AllFrom.cons (fun _ _ => by kernel_rfl) (AllFrom.cons (fun _ _ => by kernel_rfl) (AllFrom.cons (fun _ _ => by kernel_rfl) (AllFrom.cons (fun _ _ => by kernel_rfl) (AllFrom.cons (fun _ _ => by kernel_rfl) (AllFrom.cons (fun _ _ => by kernel_rfl) (AllFrom.cons (fun _ _ => by kernel_rfl) (AllFrom.cons (fun _ _ => by kernel_rfl) (AllFrom.cons (fun _ _ => by kernel_rfl) (AllFrom.cons (fun _ _ => by kernel_rfl) (AllFrom.cons (fun _ _ => by kernel_rfl) (AllFrom.cons (fun _ _ => by kernel_rfl) (AllFrom.cons (fun _ _ => by kernel_rfl) (AllFrom.cons (fun _ _ => by kernel_rfl) (AllFrom.cons (fun _ _ => by kernel_rfl) (AllFrom.cons (fun _ _ => by kernel_rfl) (AllFrom.cons (fun _ _ => by kernel_rfl) (AllFrom.cons (fun _ _ => by kernel_rfl) (AllFrom.cons (fun _ _ => by kernel_rfl) (AllFrom.cons (fun _ _ => by kernel_rfl) (AllFrom.cons (fun _ _ => by kernel_rfl) (AllFrom.cons (fun _ _ => by kernel_rfl) (AllFrom.cons (fun _ _ => by kernel_rfl) (AllFrom.cons (fun _ _ => by kernel_rfl) AllFrom.nil)))))))))))))))))))))))))))))))
        case ev => exact all_ops (AllFrom.cons (fun _ => by kernel_rfl) (AllFrom.cons (fun _ => by kernel_rfl) (AllFrom.cons (fun _ => by kernel_rfl) (AllFrom.cons (fun _ => by kernel_rfl) (AllFrom.cons (fun _ => by kernel_rfl) (AllFrom.cons (fun _ => by kernel_rfl) (AllFrom.cons (fun _ => by kernel_rfl) (AllFrom.cons (fun _ => by kernel_rfl) (AllFrom.cons (fun _ => by kernel_rfl) (AllFrom.cons (fun _ => by kernel_rfl) (AllFrom.cons (fun _ => by kernel_rfl) (AllFrom.cons (fun _ => by kernel_rfl) (AllFrom.cons (fun _ => by kernel_rfl) (AllFrom.cons (fun _ => by kernel_rfl) (AllFrom.cons (fun _ => by kernel_rfl) (AllFrom.cons (fun _ => by kernel_rfl) (AllFrom.cons (fun _ => by kernel_rfl) (AllFrom.cons (fun _ => by kernel_rfl) (AllFrom.cons (fun _ => by kernel_rfl) (AllFrom.cons (fun _ => by kernel_rfl) (AllFrom.cons (fun _ => by kernel_rfl) (AllFrom.cons (fun _ => by kernel_rfl) (AllFrom.cons (fun _ => by kernel_rfl) (AllFrom.cons (fun _ => by kernel_rfl) (AllFrom.cons (fun _ => by kernel_rfl) (AllFrom.cons (fun _ => by kernel_rfl) (AllFrom.cons (fun _ => by kernel_rfl) (AllFrom.cons (fun _ => by kernel_rfl) (AllFrom.cons (fun _ => by kernel_rfl) (AllFrom.cons (fun _ => by kernel_rfl) (AllFrom.cons (fun _ => by kernel_rfl) AllFrom.nil)))))))))))))))))))))))))))))))
        case fr => exact fun U => ⟨by kernel_rfl, by kernel_rfl, by kernel_rfl⟩
        case done =>
          intro U w' hB hV
          have e1 : U 79 = .bool false := hV 30 (by decide)
          unfold frameBM
          rw [e1]
          have HB9 := Lib.hid hB
          clear hV e1 hB
          go_wp2_with fail
          go_meet
          exact ⟨rfl, HB9⟩
      case rest =>
        obtain ⟨rfl, HB9⟩ := hcut
        rename World => wg
        have HT5 := Lib.hid (HT4.out.below HB9.out)
        clear HT4 HK4 HST HT CSM HB9
        obtain ⟨k2, hk2⟩ : ∃ k, k1.apply TB2 = k := ⟨_, rfl⟩
        obtain ⟨ds, hds⟩ : ∃ ds, k1.dones TB2 = ds := ⟨_, rfl⟩
        have HDF : Hid (∀ d ∈ ds, d.e.c.Fits ∧ ∀ x ∈ d.r.v, x < 256) := Lib.hid (by rw [← hds]; exact Bk.dones_fits HOK1.out TB2)
        have hdl : ds.length ≤ 1000000 := by
          rw [← hds]; unfold Bk.dones; rw [Bk.play_len]; unfold Bk.cnt Bk.top
          have := HB40.out; omega
        have HDL := Lib.hid hdl
        have CX := Lib.hid (HT5.out.apply TB2 hk2 hds HB40.out.1 HB40.out.2)
        have CY := Lib.hid (fun wx (hx : Two w wx b1 b2 k2 k1) => hx.swap.apply TB2 hk2 hds HB40.out.1 HB40.out.2)
        have hwh2 : k2.wh = k1.wh := by rw [← hk2]; rfl
        have hpos2 : k1.pos ≤ k2.pos := by rw [← hk2]; show k1.pos ≤ k1.pos + _; omega
        obtain ⟨st, hst⟩ : ∃ s, k2.state = s := ⟨_, rfl⟩
        have HB41 : Hid (k2.wh ≤ k2.pos + 90000) := Lib.hid (by have := HB40.out; omega)
        have HST2 := Lib.hid hst
        clear hk2 hds hdl hwh2 hpos2 hst
        go_wp2_with fail
        refine CX.out.mono ?_
        rintro en wh ⟨Ax, cx, rfl, hox, ht, hty⟩
        have HT6 := Lib.hid ht
        have HOX := Lib.hid hox
        clear ht hox hty CX HT5
        go_wp2_with fail
        refine (CY.out wh HT6.out).mono ?_
        rintro en wi ⟨Ay, cy, rfl, hoy, ht, hty⟩
        have HT7 := Lib.hid ht.swap
        have HOX7 := Lib.hid (HOX.out.turn hty).rd
        have HOY := Lib.hid hoy.rd
        clear ht hoy hty CY HT6 HOX
        have CSD := Lib.hid (refSameDone wi (cx := cx) (cy := cy) HDL.out HDF.out HOX7.out HOY.out)
        go_wp2_with fail
        refine CSD.out.mono ?_
        rintro en wj ⟨rfl, hb⟩
        have HT8 := Lib.hid (HT7.out.below hb)
        clear hb CSD HT7 HOX7 HOY
        have CK := Lib.hid (HT8.out.state HST2.out HB41.out)
        go_wp2_with fail
        refine CK.out.mono ?_
        rintro en wk ⟨ax, rfl, hox, hb⟩
        have HT9 := Lib.hid (HT8.out.below hb)
        have HSX := Lib.hid hox
        have HSO : Hid (st.m.Ok ∧ (∀ e ∈ st.rest, e.c.Fits)) := Lib.hid (by rw [← HST2.out]; exact ⟨HT9.out.ok.m, Bk.state_fits HT9.out.ok⟩)
        clear hox hb CK HT8
        have CJ := Lib.hid (HT9.out.swap.state HST2.out HB41.out)
        go_wp2_with fail
        refine CJ.out.mono ?_
        rintro en wl ⟨ay, rfl, hoy, hb⟩
        have HTA := Lib.hid (HT9.out.below hb)
        have HSX2 := Lib.hid (HSX.out.below hb)
        have HSY := Lib.hid hoy
        clear hoy hb CJ HT9 HSX
        have CSS : Hid (Calls Try.prog 16 #[stateV ax st, stateV ay st] wl fun e w' => e = .returned (.bool true) ∧ Below wl.heap.size wl w') := Lib.hid (by
          have hln : st.rest.length ≤ 1000000 := by
            rw [← HST2.out]
            show (Bk.rest k2.f (k2.wh - k2.pos).toNat k2.pos).length ≤ 1000000
            rw [Bk.rest_len]
            have := HB41.out
            omega
          exact (refSame15 wl HSO.out.1 HSO.out.1 HSO.out.2 HSO.out.2 hln HSX2.out.rd HSY.out.rd).mono fun e w' q => ⟨by rw [q.1]; simp, q.2⟩)
        go_wp2_with fail
        refine CSS.out.mono ?_
        rintro en wm ⟨rfl, hb⟩
        have HTB := Lib.hid (HTA.out.below hb)
        clear hb CSS
        go_wp2_with fail
        refine (awake16 wm).mono ?_
        rintro en wn ⟨rfl, hb⟩
        have HTC := Lib.hid (HTB.out.below hb)
        clear hb
        go_wp2_with fail
        go_ret
        exact ⟨rfl, HTC.out.bel⟩
end Go.Proofs.Ytaknfmionkkdjaa

