/- ObjsOwn: the walk, over any contracts of the code's. -/
import Derived.Test.YtclbhcbeocapgaaObjsOwnKit
import Derived.Test.YtclbhcbeocapgaaObjCmdD
import Derived.Deep.CutBlock
import Derived.Deep.QuietTactic
import Derived.BigQuiet
import Derived.Deep.RegionHeld3
namespace Go.Proofs.Ytclbhcbeocapgaa
open Go.RowKit
set_option linter.unusedVariables false
theorem strB_sizeO (l : List Nat) : (strB l).size = l.length := by
  show (strB l).data.size = l.length
  unfold strB strOfNums; simp
set_option maxHeartbeats 8000000 in
set_option maxRecDepth 100000 in
theorem objsOwn_core (hC : ApplyC8) (hA : AwakeC8) (a0 : Option Addr) (len0 cap0 : Nat) (z0 : List Int) (nn : Int) (w : World) (w0 : IsRow .i64 w a0 len0 cap0 z0) :
    Calls Try.prog 4 #[.slice a0 len0 cap0, .int .i64 nn] w fun e w' => e = .returned (.bool true) ∧ Below w.heap.size w w' := by
  obtain ⟨hz, hzl, hle0, hcap0⟩ := w0.ints
  obtain ⟨zs, hzs⟩ : ∃ zs, zs = z0.take len0 := ⟨_, rfl⟩
  rw [← hzs] at hz hzl
  have hn0 : len0 ≤ 9223372036854775807 := Nat.le_trans hle0 hcap0
  have HZ := Lib.hid hz
  have HZL := Lib.hid hzl
  clear w0 hcap0 hzs hz hle0 hzl
  have HS0 : Hid (TwoS w ((w.alloc (.cells #[.slice none 0 0, .slice none 0 0, .slice none 0 0, .slice none 0 0] 32)).alloc (.cells #[.slice none 0 0, .slice none 0 0, .slice none 0 0, .slice none 0 0] 32)) w.heap.size ⟨none, 0, none, 0, none, 0, none, 0⟩ ⟨none, 0, none, 0, none, 0, none, 0⟩ ⟨[], [], [], []⟩ ⟨[], [], [], []⟩) := Lib.hid
    ⟨(Blk.new _ _ _).alloc _, by
      have := Blk.new (w.alloc (.cells #[.slice none 0 0, .slice none 0 0, .slice none 0 0, .slice none 0 0] 32)) 32 #[.slice none 0 0, .slice none 0 0, .slice none 0 0, .slice none 0 0]
      rwa [World.size_alloc] at this, ⟨own_nil _ _, OwnQ.nil _ _, ownI_nil _ _, OwnP.nil _ _⟩, ⟨own_nil _ _, OwnQ.nil _ _, ownI_nil _ _, OwnP.nil _ _⟩, Ob.Inv.nil, Ob.Inv.nil, ((Below.refl _ _).alloc (Nat.le_refl _) _).alloc (by simp) _, Nat.le_refl _⟩
  go_enter Try.func4, Try.ntmps4
  go_upto_block 0 with fail
  obtain ⟨g, hg⟩ : ∃ g, w.heap.size = g := ⟨_, rfl⟩
  rw [hg] at HS0 ⊢
  clear hg
  go_cut [7] from 20 to 49 (fun s7 wx => ∃ a a' s, Hid (TwoS w wx g a a' s s))
  case first =>
   go_wp2_with fail
   go_loopw [7] (fun s7 wr => ∃ (i : Nat) (a a' : OA) (s : Ob), i ≤ len0 ∧ s7 = .int .i64 (i : Int) ∧ Hid (TwoS w wr g a a' s s)) (fun s7 _ => len0 - (intOf s7).toNat)
   case atStart => exact ⟨0, _, _, _, Nat.zero_le _, rfl, HS0⟩
   case round =>
     clear HS0
     obtain ⟨i, a, a', s, hi, rfl, HS⟩ := hrel
     by_cases hlt : i < len0 ∧ i < 40
     · obtain ⟨hlt, h40⟩ := hlt
       have hk1 : (i : Int) < (len0 : Int) := by omega
       have hk2 : (i : Int) < 40 := by omega
       have hk0 : (0 : Int) ≤ (i : Int) := by omega
       have hwi : IntKind.i64.wrap ((i : Int) + 1) = (i : Int) + 1 := IntWalk.i64_in _ (by omega)
       obtain ⟨z, hz⟩ : ∃ z, zs[i]? = some z := ⟨_, List.getElem?_eq_getElem (by have := HZL.out; omega)⟩
       obtain ⟨b, o, rfl, _⟩ := HZ.out.int_at hlt
       have hzlt : b < w.heap.size := by obtain ⟨b', o', e1, h1, _⟩ := HZ.out.2 (by omega); injection e1 with e1; injection e1 with e1; omega
       have HZC : Hid (∀ wx, Below w.heap.size w wx → wx.cell? ⟨b, o + i, none⟩ = some (.int .i64 z)) := Lib.hid (fun wx hb => (hb.cell (p := ⟨b, o + i, none⟩) hzlt).trans (HZ.out.int_cell hlt hz))
       clear hz hzlt
       obtain ⟨c, hc⟩ : ∃ c, cmdOf z = c := ⟨_, rfl⟩
       have HD : Hid (∀ wx, Calls Try.prog 10 #[.int .i64 z] wx fun e w' => ∃ ca, e = .returned (.agg #[.int .i64 c.kind, .int .i64 c.who, .slice ca.Ak c.key.length ca.ck, .slice ca.Av c.val.length ca.cv, .slice ca.Ao c.old.length ca.co]) ∧ c.Fits ∧ RdC w' w'.heap.size ca c ∧ Below wx.heap.size wx w') := Lib.hid (fun wx => by
         have := cmd_det z wx
         rw [hc] at this
         exact this)
       obtain ⟨r, hr⟩ : ∃ r, s.apply c = r := ⟨_, rfl⟩
       have HR := Lib.hid hr
       clear hc hr
       go_upto_region 5 with fail
       go_cut [] from 30 to 39 (fun wx => ∃ d, Hid (TwoS w wx g d a' r.s s))
       case first =>
         refine wp_region_held_drew (S := fun w' => Below w.heap.size w w') (by kernel_rfl) (HS.out.bel.drew) (fun _ => ?_)
         have HT := Lib.hid (HS.out.below (Below.refl wr.heap.size wr).drew)
         generalize wr.drew = w2 at HT ⊢
         have hS := Lib.hid HT.out.bel
         refine wpAnyH_take (i := 1) (v := .slice (some ⟨b, o, none⟩) len0 cap0) rfl (by kernel_rfl) (by kernel_rfl) (by kernel_rfl) (fun _ _ _ h => h) (Or.inl ⟨by kernel_rfl, fun w _ => by go_simp⟩) hS.out ?_
         refine wpAnyH_take (i := 2) (v := .int .i64 (i : Int)) rfl (by kernel_rfl) (by kernel_rfl) (by kernel_rfl) (fun _ _ _ h => h) (Or.inl ⟨by kernel_rfl, fun w _ => by go_simp⟩) hS.out ?_
         refine wpAnyH_take (i := 3) (v := .pointer (some ⟨b, o + i, none⟩)) rfl (by kernel_rfl) (by kernel_rfl) (by kernel_rfl) (fun _ _ _ h => h) (Or.inl ⟨by kernel_rfl, fun w _ => by go_simp⟩) hS.out ?_
         refine wpAnyH_take (i := 4) (v := .int .i64 z) rfl (by kernel_rfl) (by kernel_rfl) (by kernel_rfl) (fun _ _ _ h => h) (Or.inl ⟨by kernel_rfl, fun w h => by have q := HZC.out _ h; go_simp⟩) hS.out ?_
         refine wpAnyH_ready (rs := [0, 5]) (by kernel_rfl) (by simp) ?_
         refine AllReadyH.cons rfl (fun K hK => ?_) (AllReadyH.cons rfl (fun K hK => ?_) AllReadyH.nil)
         · have hx := HT.out.b1
           simp only [objC] at hx
           obtain ⟨x0, x1, x2, x3, f0, f1, f2, f3⟩ := four hx
           clear hx
           go_simp
           refine hK.out _ _ hS.out (fun _ => ?_)
           clear hK K x0 x1 x2 x3 f0 f1 f2 f3
           refine wpAnyH_ready (rs := [5]) (by kernel_rfl) (by simp) ?_
           refine AllReadyH.cons rfl (fun K hK => ?_) AllReadyH.nil
           go_simp
           refine (HD.out _).mono ?_
           rintro e w3 ⟨ca, rfl, hF, hrc, hb3⟩
           have HT := Lib.hid (HT.out.below hb3)
           have hS := Lib.hid HT.out.bel
           have HRC := Lib.hid hrc
           have HF := Lib.hid hF
           go_simp
           refine hK.out _ _ hS.out (fun _ => ?_)
           clear hK K
           refine wpAnyH_ready (rs := [6]) (by kernel_rfl) (by simp) ?_
           refine AllReadyH.cons rfl (fun K hK => ?_) AllReadyH.nil
           have hIv := HT.out.i1.apply HF.out
           rw [HR.out] at hIv
           have hcall : Calls Try.prog 7 #[.agg #[.slice a.A0 s.reg.length a.c0, .slice a.A1 s.q.length a.c1, .slice a.A2 s.lk.length a.c2, .slice a.A3 s.mp.length a.c3], .agg #[.int .i64 c.kind, .int .i64 c.who, .slice ca.Ak c.key.length ca.ck, .slice ca.Av c.val.length ca.cv, .slice ca.Ao c.old.length ca.co]] w3 (GotO w w3 r) := by
             have := hC (W := w) HT.out.i1 HF.out HT.out.o1.rd HRC.out HT.out.bel
             rw [HR.out] at this
             exact this
           have HCALL := Lib.hid hcall
           have HIV := Lib.hid hIv
           clear hcall hIv
           go_simp
           refine HCALL.out.mono ?_
           rintro e w4 ⟨d, A4, c4, rfl, ho4, hv4, hB4, hb4⟩
           unfold objV resV
           simp only [objC]
           have HT := Lib.hid (HT.out.below hb4)
           have hS := Lib.hid HT.out.bel
           have HO4 := Lib.hid ho4
           clear ho4 hv4 hB4 hb4 HCALL
           go_simp
           refine hK.out _ _ hS.out (fun _ => ?_)
           clear hK K
           refine wpAnyH_take (i := 7) (v := .tuple #[.agg #[.slice d.A0 r.s.reg.length d.c0, .slice d.A1 r.s.q.length d.c1, .slice d.A2 r.s.lk.length d.c2, .slice d.A3 r.s.mp.length d.c3], .agg #[.int .i64 r.e, .slice A4 r.v.length c4, .int .i64 r.n]]) rfl (by kernel_rfl) (by kernel_rfl) (by kernel_rfl) (fun _ _ _ h => h) (Or.inl ⟨by kernel_rfl, fun w _ => by go_simp⟩) hS.out ?_
           refine wpAnyH_take (i := 8) (v := .agg #[.slice d.A0 r.s.reg.length d.c0, .slice d.A1 r.s.q.length d.c1, .slice d.A2 r.s.lk.length d.c2, .slice d.A3 r.s.mp.length d.c3]) rfl (by kernel_rfl) (by kernel_rfl) (by kernel_rfl) (fun _ _ _ h => h) (Or.inl ⟨by kernel_rfl, fun w _ => by go_simp⟩) hS.out ?_
           refine wpAnyH_take (i := 9) (v := .agg #[.int .i64 r.e, .slice A4 r.v.length c4, .int .i64 r.n]) rfl (by kernel_rfl) (by kernel_rfl) (by kernel_rfl) (fun _ _ _ h => h) (Or.inl ⟨by kernel_rfl, fun w _ => by go_simp⟩) hS.out ?_
           have hx := HT.out.b1
           simp only [objC] at hx
           obtain ⟨x0, x1, x2, x3, f0, f1, f2, f3⟩ := four hx
           clear hx
           have HN := Lib.hid (HT.out.set1 HO4.out HIV.out (.slice d.A0 r.s.reg.length d.c0) (.slice d.A1 r.s.q.length d.c1) (.slice d.A2 r.s.lk.length d.c2) (.slice d.A3 r.s.mp.length d.c3) rfl)
           have hS2 := Lib.hid HN.out.bel
           refine wpAnyH_ready (rs := [10]) (by kernel_rfl) (by simp) ?_
           refine AllReadyH.cons rfl (fun K hK => ?_) AllReadyH.nil
           go_simp
           refine hK.out _ _ hS2.out (fun _ => ?_)
           clear hK K x0 x1 x2 x3 f0 f1 f2 f3
           refine wpAnyH_done (by kernel_rfl) ?_ _
           go_wp2_with fail
           go_meet
           exact ⟨d, HN⟩
         · go_simp
           refine (HD.out _).mono ?_
           rintro e w3 ⟨ca, rfl, hF, hrc, hb3⟩
           have HT := Lib.hid (HT.out.below hb3)
           have hS := Lib.hid HT.out.bel
           have HRC := Lib.hid hrc
           have HF := Lib.hid hF
           go_simp
           refine hK.out _ _ hS.out (fun _ => ?_)
           clear hK K
           refine wpAnyH_ready (rs := [0]) (by kernel_rfl) (by simp) ?_
           refine AllReadyH.cons rfl (fun K hK => ?_) AllReadyH.nil
           have hx := HT.out.b1
           simp only [objC] at hx
           obtain ⟨x0, x1, x2, x3, f0, f1, f2, f3⟩ := four hx
           clear hx
           go_simp
           refine hK.out _ _ hS.out (fun _ => ?_)
           clear hK K x0 x1 x2 x3 f0 f1 f2 f3
           refine wpAnyH_ready (rs := [6]) (by kernel_rfl) (by simp) ?_
           refine AllReadyH.cons rfl (fun K hK => ?_) AllReadyH.nil
           have hIv := HT.out.i1.apply HF.out
           rw [HR.out] at hIv
           have hcall : Calls Try.prog 7 #[.agg #[.slice a.A0 s.reg.length a.c0, .slice a.A1 s.q.length a.c1, .slice a.A2 s.lk.length a.c2, .slice a.A3 s.mp.length a.c3], .agg #[.int .i64 c.kind, .int .i64 c.who, .slice ca.Ak c.key.length ca.ck, .slice ca.Av c.val.length ca.cv, .slice ca.Ao c.old.length ca.co]] w3 (GotO w w3 r) := by
             have := hC (W := w) HT.out.i1 HF.out HT.out.o1.rd HRC.out HT.out.bel
             rw [HR.out] at this
             exact this
           have HCALL := Lib.hid hcall
           have HIV := Lib.hid hIv
           clear hcall hIv
           go_simp
           refine HCALL.out.mono ?_
           rintro e w4 ⟨d, A4, c4, rfl, ho4, hv4, hB4, hb4⟩
           unfold objV resV
           simp only [objC]
           have HT := Lib.hid (HT.out.below hb4)
           have hS := Lib.hid HT.out.bel
           have HO4 := Lib.hid ho4
           clear ho4 hv4 hB4 hb4 HCALL
           go_simp
           refine hK.out _ _ hS.out (fun _ => ?_)
           clear hK K
           refine wpAnyH_take (i := 7) (v := .tuple #[.agg #[.slice d.A0 r.s.reg.length d.c0, .slice d.A1 r.s.q.length d.c1, .slice d.A2 r.s.lk.length d.c2, .slice d.A3 r.s.mp.length d.c3], .agg #[.int .i64 r.e, .slice A4 r.v.length c4, .int .i64 r.n]]) rfl (by kernel_rfl) (by kernel_rfl) (by kernel_rfl) (fun _ _ _ h => h) (Or.inl ⟨by kernel_rfl, fun w _ => by go_simp⟩) hS.out ?_
           refine wpAnyH_take (i := 8) (v := .agg #[.slice d.A0 r.s.reg.length d.c0, .slice d.A1 r.s.q.length d.c1, .slice d.A2 r.s.lk.length d.c2, .slice d.A3 r.s.mp.length d.c3]) rfl (by kernel_rfl) (by kernel_rfl) (by kernel_rfl) (fun _ _ _ h => h) (Or.inl ⟨by kernel_rfl, fun w _ => by go_simp⟩) hS.out ?_
           refine wpAnyH_take (i := 9) (v := .agg #[.int .i64 r.e, .slice A4 r.v.length c4, .int .i64 r.n]) rfl (by kernel_rfl) (by kernel_rfl) (by kernel_rfl) (fun _ _ _ h => h) (Or.inl ⟨by kernel_rfl, fun w _ => by go_simp⟩) hS.out ?_
           have hx := HT.out.b1
           simp only [objC] at hx
           obtain ⟨x0, x1, x2, x3, f0, f1, f2, f3⟩ := four hx
           clear hx
           have HN := Lib.hid (HT.out.set1 HO4.out HIV.out (.slice d.A0 r.s.reg.length d.c0) (.slice d.A1 r.s.q.length d.c1) (.slice d.A2 r.s.lk.length d.c2) (.slice d.A3 r.s.mp.length d.c3) rfl)
           have hS2 := Lib.hid HN.out.bel
           refine wpAnyH_ready (rs := [10]) (by kernel_rfl) (by simp) ?_
           refine AllReadyH.cons rfl (fun K hK => ?_) AllReadyH.nil
           go_simp
           refine hK.out _ _ hS2.out (fun _ => ?_)
           clear hK K x0 x1 x2 x3 f0 f1 f2 f3
           refine wpAnyH_done (by kernel_rfl) ?_ _
           go_wp2_with fail
           go_meet
           exact ⟨d, HN⟩
       case rest =>
       obtain ⟨d, HS5⟩ := hcut
       clear HS
       rename World => w5
       go_upto_region 6 with fail
       refine wp_region_held_drew (S := fun w' => Below w.heap.size w w') (by kernel_rfl) (HS5.out.bel.drew) (fun _ => ?_)
       have HT := Lib.hid (HS5.out.below (Below.refl w5.heap.size w5).drew)
       generalize w5.drew = w2 at HT ⊢
       have hS := Lib.hid HT.out.bel
       refine wpAnyH_take (i := 1) (v := .slice (some ⟨b, o, none⟩) len0 cap0) rfl (by kernel_rfl) (by kernel_rfl) (by kernel_rfl) (fun _ _ _ h => h) (Or.inl ⟨by kernel_rfl, fun w _ => by go_simp⟩) hS.out ?_
       refine wpAnyH_take (i := 2) (v := .int .i64 (i : Int)) rfl (by kernel_rfl) (by kernel_rfl) (by kernel_rfl) (fun _ _ _ h => h) (Or.inl ⟨by kernel_rfl, fun w _ => by go_simp⟩) hS.out ?_
       refine wpAnyH_take (i := 3) (v := .pointer (some ⟨b, o + i, none⟩)) rfl (by kernel_rfl) (by kernel_rfl) (by kernel_rfl) (fun _ _ _ h => h) (Or.inl ⟨by kernel_rfl, fun w _ => by go_simp⟩) hS.out ?_
       refine wpAnyH_take (i := 4) (v := .int .i64 z) rfl (by kernel_rfl) (by kernel_rfl) (by kernel_rfl) (fun _ _ _ h => h) (Or.inl ⟨by kernel_rfl, fun w h => by have q := HZC.out _ h; go_simp⟩) hS.out ?_
       refine wpAnyH_ready (rs := [0, 5]) (by kernel_rfl) (by simp) ?_
       refine AllReadyH.cons rfl (fun K hK => ?_) (AllReadyH.cons rfl (fun K hK => ?_) AllReadyH.nil)
       · have hx := HT.out.b2
         simp only [objC] at hx
         obtain ⟨x0, x1, x2, x3, f0, f1, f2, f3⟩ := four hx
         clear hx
         go_simp
         refine hK.out _ _ hS.out (fun _ => ?_)
         clear hK K x0 x1 x2 x3 f0 f1 f2 f3
         refine wpAnyH_ready (rs := [5]) (by kernel_rfl) (by simp) ?_
         refine AllReadyH.cons rfl (fun K hK => ?_) AllReadyH.nil
         go_simp
         refine (HD.out _).mono ?_
         rintro e w3 ⟨ca, rfl, hF, hrc, hb3⟩
         have HT := Lib.hid (HT.out.below hb3)
         have hS := Lib.hid HT.out.bel
         have HRC := Lib.hid hrc
         have HF := Lib.hid hF
         go_simp
         refine hK.out _ _ hS.out (fun _ => ?_)
         clear hK K
         refine wpAnyH_ready (rs := [6]) (by kernel_rfl) (by simp) ?_
         refine AllReadyH.cons rfl (fun K hK => ?_) AllReadyH.nil
         have hIv := HT.out.i2.apply HF.out
         rw [HR.out] at hIv
         have hcall : Calls Try.prog 11 #[.agg #[.slice a'.A0 s.reg.length a'.c0, .slice a'.A1 s.q.length a'.c1, .slice a'.A2 s.lk.length a'.c2, .slice a'.A3 s.mp.length a'.c3], .agg #[.int .i64 c.kind, .int .i64 c.who, .slice ca.Ak c.key.length ca.ck, .slice ca.Av c.val.length ca.cv, .slice ca.Ao c.old.length ca.co]] w3 (GotO w w3 r) := by
           have := refApply_any (W := w) HT.out.i2 HF.out HT.out.o2.rd HRC.out HT.out.bel
           rw [HR.out] at this
           exact this
         have HCALL := Lib.hid hcall
         have HIV := Lib.hid hIv
         clear hcall hIv
         go_simp
         refine HCALL.out.mono ?_
         rintro e w4 ⟨d', A4, c4, rfl, ho4, hv4, hB4, hb4⟩
         unfold objV resV
         simp only [objC]
         have HT := Lib.hid (HT.out.below hb4)
         have hS := Lib.hid HT.out.bel
         have HO4 := Lib.hid ho4
         clear ho4 hv4 hB4 hb4 HCALL
         go_simp
         refine hK.out _ _ hS.out (fun _ => ?_)
         clear hK K
         refine wpAnyH_take (i := 7) (v := .tuple #[.agg #[.slice d'.A0 r.s.reg.length d'.c0, .slice d'.A1 r.s.q.length d'.c1, .slice d'.A2 r.s.lk.length d'.c2, .slice d'.A3 r.s.mp.length d'.c3], .agg #[.int .i64 r.e, .slice A4 r.v.length c4, .int .i64 r.n]]) rfl (by kernel_rfl) (by kernel_rfl) (by kernel_rfl) (fun _ _ _ h => h) (Or.inl ⟨by kernel_rfl, fun w _ => by go_simp⟩) hS.out ?_
         refine wpAnyH_take (i := 8) (v := .agg #[.slice d'.A0 r.s.reg.length d'.c0, .slice d'.A1 r.s.q.length d'.c1, .slice d'.A2 r.s.lk.length d'.c2, .slice d'.A3 r.s.mp.length d'.c3]) rfl (by kernel_rfl) (by kernel_rfl) (by kernel_rfl) (fun _ _ _ h => h) (Or.inl ⟨by kernel_rfl, fun w _ => by go_simp⟩) hS.out ?_
         refine wpAnyH_take (i := 9) (v := .agg #[.int .i64 r.e, .slice A4 r.v.length c4, .int .i64 r.n]) rfl (by kernel_rfl) (by kernel_rfl) (by kernel_rfl) (fun _ _ _ h => h) (Or.inl ⟨by kernel_rfl, fun w _ => by go_simp⟩) hS.out ?_
         have hx := HT.out.b2
         simp only [objC] at hx
         obtain ⟨x0, x1, x2, x3, f0, f1, f2, f3⟩ := four hx
         clear hx
         have HN := Lib.hid (HT.out.set2 HO4.out HIV.out (.slice d'.A0 r.s.reg.length d'.c0) (.slice d'.A1 r.s.q.length d'.c1) (.slice d'.A2 r.s.lk.length d'.c2) (.slice d'.A3 r.s.mp.length d'.c3) rfl)
         have hS2 := Lib.hid HN.out.bel
         refine wpAnyH_ready (rs := [10]) (by kernel_rfl) (by simp) ?_
         refine AllReadyH.cons rfl (fun K hK => ?_) AllReadyH.nil
         go_simp
         refine hK.out _ _ hS2.out (fun _ => ?_)
         clear hK K x0 x1 x2 x3 f0 f1 f2 f3
         refine wpAnyH_done (by kernel_rfl) ?_ _
         go_wp2_with fail
         go_roundw
         case rel => exact ⟨i + 1, d, d', r.s, by omega, by go_num, HN⟩
         case measure => simp [intOf]; omega
       · go_simp
         refine (HD.out _).mono ?_
         rintro e w3 ⟨ca, rfl, hF, hrc, hb3⟩
         have HT := Lib.hid (HT.out.below hb3)
         have hS := Lib.hid HT.out.bel
         have HRC := Lib.hid hrc
         have HF := Lib.hid hF
         go_simp
         refine hK.out _ _ hS.out (fun _ => ?_)
         clear hK K
         refine wpAnyH_ready (rs := [0]) (by kernel_rfl) (by simp) ?_
         refine AllReadyH.cons rfl (fun K hK => ?_) AllReadyH.nil
         have hx := HT.out.b2
         simp only [objC] at hx
         obtain ⟨x0, x1, x2, x3, f0, f1, f2, f3⟩ := four hx
         clear hx
         go_simp
         refine hK.out _ _ hS.out (fun _ => ?_)
         clear hK K x0 x1 x2 x3 f0 f1 f2 f3
         refine wpAnyH_ready (rs := [6]) (by kernel_rfl) (by simp) ?_
         refine AllReadyH.cons rfl (fun K hK => ?_) AllReadyH.nil
         have hIv := HT.out.i2.apply HF.out
         rw [HR.out] at hIv
         have hcall : Calls Try.prog 11 #[.agg #[.slice a'.A0 s.reg.length a'.c0, .slice a'.A1 s.q.length a'.c1, .slice a'.A2 s.lk.length a'.c2, .slice a'.A3 s.mp.length a'.c3], .agg #[.int .i64 c.kind, .int .i64 c.who, .slice ca.Ak c.key.length ca.ck, .slice ca.Av c.val.length ca.cv, .slice ca.Ao c.old.length ca.co]] w3 (GotO w w3 r) := by
           have := refApply_any (W := w) HT.out.i2 HF.out HT.out.o2.rd HRC.out HT.out.bel
           rw [HR.out] at this
           exact this
         have HCALL := Lib.hid hcall
         have HIV := Lib.hid hIv
         clear hcall hIv
         go_simp
         refine HCALL.out.mono ?_
         rintro e w4 ⟨d', A4, c4, rfl, ho4, hv4, hB4, hb4⟩
         unfold objV resV
         simp only [objC]
         have HT := Lib.hid (HT.out.below hb4)
         have hS := Lib.hid HT.out.bel
         have HO4 := Lib.hid ho4
         clear ho4 hv4 hB4 hb4 HCALL
         go_simp
         refine hK.out _ _ hS.out (fun _ => ?_)
         clear hK K
         refine wpAnyH_take (i := 7) (v := .tuple #[.agg #[.slice d'.A0 r.s.reg.length d'.c0, .slice d'.A1 r.s.q.length d'.c1, .slice d'.A2 r.s.lk.length d'.c2, .slice d'.A3 r.s.mp.length d'.c3], .agg #[.int .i64 r.e, .slice A4 r.v.length c4, .int .i64 r.n]]) rfl (by kernel_rfl) (by kernel_rfl) (by kernel_rfl) (fun _ _ _ h => h) (Or.inl ⟨by kernel_rfl, fun w _ => by go_simp⟩) hS.out ?_
         refine wpAnyH_take (i := 8) (v := .agg #[.slice d'.A0 r.s.reg.length d'.c0, .slice d'.A1 r.s.q.length d'.c1, .slice d'.A2 r.s.lk.length d'.c2, .slice d'.A3 r.s.mp.length d'.c3]) rfl (by kernel_rfl) (by kernel_rfl) (by kernel_rfl) (fun _ _ _ h => h) (Or.inl ⟨by kernel_rfl, fun w _ => by go_simp⟩) hS.out ?_
         refine wpAnyH_take (i := 9) (v := .agg #[.int .i64 r.e, .slice A4 r.v.length c4, .int .i64 r.n]) rfl (by kernel_rfl) (by kernel_rfl) (by kernel_rfl) (fun _ _ _ h => h) (Or.inl ⟨by kernel_rfl, fun w _ => by go_simp⟩) hS.out ?_
         have hx := HT.out.b2
         simp only [objC] at hx
         obtain ⟨x0, x1, x2, x3, f0, f1, f2, f3⟩ := four hx
         clear hx
         have HN := Lib.hid (HT.out.set2 HO4.out HIV.out (.slice d'.A0 r.s.reg.length d'.c0) (.slice d'.A1 r.s.q.length d'.c1) (.slice d'.A2 r.s.lk.length d'.c2) (.slice d'.A3 r.s.mp.length d'.c3) rfl)
         have hS2 := Lib.hid HN.out.bel
         refine wpAnyH_ready (rs := [10]) (by kernel_rfl) (by simp) ?_
         refine AllReadyH.cons rfl (fun K hK => ?_) AllReadyH.nil
         go_simp
         refine hK.out _ _ hS2.out (fun _ => ?_)
         clear hK K x0 x1 x2 x3 f0 f1 f2 f3
         refine wpAnyH_done (by kernel_rfl) ?_ _
         go_wp2_with fail
         go_roundw
         case rel => exact ⟨i + 1, d, d', r.s, by omega, by go_num, HN⟩
         case measure => simp [intOf]; omega
     · by_cases h1 : i < len0
       · have h2 : ¬ (i : Int) < 40 := by omega
         have h3 : (i : Int) < (len0 : Int) := by omega
         go_wp2_with fail
         go_meet
         exact ⟨a, a', s, HS⟩
       · have h3 : ¬ (i : Int) < (len0 : Int) := by omega
         go_wp2_with fail
         go_meet
         exact ⟨a, a', s, HS⟩
  case rest =>
    obtain ⟨a, a', s, HS⟩ := hcut
    rename World => w1
    clear HS0
    go_upto_region 8 with (first
      | (go_at_call 10; refine (cmd_any _ _).mono ?_; rintro e w2 ⟨ca, c, rfl, hF, hrc, hb2⟩; unfold cmdV; simp only [cmdC])
      | fail)
    obtain ⟨k, hk⟩ : ∃ k, w2.heap.size = k := ⟨_, rfl⟩
    have b3 : Below w2.heap.size w2 (w2.alloc (.cells #[.int .i64 c.kind, .int .i64 c.who, .slice ca.Ak c.key.length ca.ck, .slice ca.Av c.val.length ca.cv, .slice ca.Ao c.old.length ca.co] 24)) := (Below.refl _ _).alloc (Nat.le_refl _) _
    have HS3 := Lib.hid (HS.out.below (hb2.trans (b3.mono hb2.size)))
    have HRC := Lib.hid (hrc.below' b3)
    have HF := Lib.hid hF
    have HK : Hid (Blk (w2.alloc (.cells #[.int .i64 c.kind, .int .i64 c.who, .slice ca.Ak c.key.length ca.ck, .slice ca.Av c.val.length ca.cv, .slice ca.Ao c.old.length ca.co] 24)) k 24 #[.int .i64 c.kind, .int .i64 c.who, .slice ca.Ak c.key.length ca.ck, .slice ca.Av c.val.length ca.cv, .slice ca.Ao c.old.length ca.co]) := Lib.hid (by subst hk; exact Blk.new _ _ _)
    obtain ⟨w3, hw3⟩ : ∃ x, w2.alloc (.cells #[.int .i64 c.kind, .int .i64 c.who, .slice ca.Ak c.key.length ca.ck, .slice ca.Av c.val.length ca.cv, .slice ca.Ao c.old.length ca.co] 24) = x := ⟨_, rfl⟩
    rw [hw3] at HS3 HRC HK
    rw [hw3, hk]
    clear hw3 hk b3 hrc hb2 hF HS
    go_cut [9] from 52 to 59 (fun s9 wx => s9 = .string (strB c.val ++ ⟨#[124]⟩ ++ strB c.key) ∧ wx = w3)
    case first =>
      obtain ⟨y0, y1, y2, y3, y4⟩ := five HK.out
      have k1 := str_of (c := ca.cv) HRC.out.rv
      have k2 := str_of (c := ca.ck) HRC.out.rk
      have n1 : ¬ 9223372036854775807 < (strB c.val).size + 1 := by rw [strB_sizeO]; have := HF.out.val.1; omega
      have n2 : ¬ 9223372036854775807 < (strB c.val).size + 1 + (strB c.key).size := by rw [strB_sizeO, strB_sizeO]; have h1 := HF.out.val.1; have h2 := HF.out.key.1; omega
      go_wp2_with fail
      go_meet
      exact ⟨rfl, rfl⟩
    case rest =>
    obtain ⟨rfl, hq⟩ := hcut
    subst hq
    rename World => w3
    obtain ⟨was, hwas⟩ : ∃ x, strB c.val ++ ⟨#[124]⟩ ++ strB c.key = x := ⟨_, rfl⟩
    have HWAS := Lib.hid hwas
    rw [hwas]
    clear hwas
    have hx := HS3.out.b1
    simp only [objC] at hx
    obtain ⟨x0, x1, x2, x3, _, _, _, _⟩ := four hx
    obtain ⟨y0, y1, y2, y3, y4⟩ := five HK.out
    clear hx
    have hcall := hC (W := w3) HS3.out.i1 HF.out HS3.out.o1.rd HRC.out (Below.refl _ _)
    have hiv := HS3.out.i1.apply HF.out
    have hvb := Ob.apply_vb (c := c) HS3.out.i1
    have hvl := Ob.apply_vlen (c := c) HS3.out.i1
    obtain ⟨r, hr⟩ : ∃ r, s.apply c = r := ⟨_, rfl⟩
    rw [hr] at hcall hiv hvb hvl
    have HCALL : Hid (Calls Try.prog 7 #[.agg #[.slice a.A0 s.reg.length a.c0, .slice a.A1 s.q.length a.c1, .slice a.A2 s.lk.length a.c2, .slice a.A3 s.mp.length a.c3], .agg #[.int .i64 c.kind, .int .i64 c.who, .slice ca.Ak c.key.length ca.ck, .slice ca.Av c.val.length ca.cv, .slice ca.Ao c.old.length ca.co]] w3 (GotO w3 w3 r)) := Lib.hid hcall
    have HIV := Lib.hid hiv
    have HVB := Lib.hid hvb
    have HVL := Lib.hid hvl
    clear hcall hiv hvb hvl hr
    go_upto_region 10 with (first
      | (go_at_call 7; refine HCALL.out.mono ?_; rintro e w4 ⟨d, A4, c4, rfl, ho4, hv4, hB4, hb4⟩; unfold objV resV; simp only [objC])
      | fail)
    obtain ⟨h, hh⟩ : ∃ h, w4.heap.size = h := ⟨_, rfl⟩
    obtain ⟨vs, us, HT0⟩ := Tn.start ho4 hv4 HIV.out HVB.out HVL.out hB4 hh
    obtain ⟨w5, hw5⟩ : ∃ x, (w4.alloc (.cells #[.slice d.A0 r.s.reg.length d.c0, .slice d.A1 r.s.q.length d.c1, .slice d.A2 r.s.lk.length d.c2, .slice d.A3 r.s.mp.length d.c3] 32)).alloc (.cells #[.int .i64 r.e, .slice A4 r.v.length c4, .int .i64 r.n] 34) = x := ⟨_, rfl⟩
    rw [hw5] at HT0 ⊢
    rw [hh]
    obtain ⟨m0, hm0⟩ : ∃ x, r.s.reg.length = x := ⟨_, rfl⟩
    obtain ⟨m1, hm1⟩ : ∃ x, r.s.q.length = x := ⟨_, rfl⟩
    obtain ⟨m2, hm2⟩ : ∃ x, r.s.lk.length = x := ⟨_, rfl⟩
    obtain ⟨m3, hm3⟩ : ∃ x, r.s.mp.length = x := ⟨_, rfl⟩
    obtain ⟨m4, hm4⟩ : ∃ x, r.v.length = x := ⟨_, rfl⟩
    obtain ⟨ls, hls⟩ : ∃ x, r.s.lk = x := ⟨_, rfl⟩
    rw [hm0, hm1, hm2, hm3, hm4, hls] at HT0
    have HT := Lib.hid HT0
    clear HT0 hw5 hh ho4 hv4 hB4 hb4 HCALL HIV HVB HVL x0 x1 x2 x3 y0 y1 y2 y3 y4
    rw [hm0, hm1, hm2, hm3, hm4]
    clear hm0 hm1 hm2 hm3 hm4 hls
    obtain ⟨x0, x1, x2, x3, _, _, _, _⟩ := four HT.out.tb
    go_wp2_with fail
    clear x0 x1 x2 x3
    go_loopw [69] (fun s69 wr => ∃ (j : Nat) (ls : List Int), j ≤ m0 ∧ s69 = .int .i64 (j : Int) ∧ Hid (Tn w3 wr h d m0 m1 m2 m3 vs us ls A4 m4 c4 r.e r.n)) (fun s69 _ => m0 - (intOf s69).toNat)
    case atStart => exact ⟨0, _, Nat.zero_le _, rfl, HT⟩
    case round =>
      clear HT
      obtain ⟨j, ls, hj, rfl, HT⟩ := hrel
      by_cases hlt : j < m0
      · obtain ⟨gb, hgb, hb⟩ := HT.out.reg (by omega)
        obtain ⟨hg1, hf, x, hx0, hx1, hc⟩ := hb.at hlt
        have hu := up8 x hx0 hx1
        have hji : (j : Int) < (m0 : Int) := by omega
        have hwj : IntKind.i64.wrap ((j : Int) + 1) = (j : Int) + 1 := IntWalk.i64_in _ (by have := HT.out.len; omega)
        obtain ⟨x0, x1, x2, x3, _, _, _, _⟩ := four HT.out.tb
        have HS := Lib.hid (HT.out.set_ (i := j) hb (show 0 ≤ (x + 1) % 256 by omega) (by omega))
        rw [hgb] at x0
        clear HT hb hg1
        go_wp2_with fail
        go_roundw
        case rel => exact ⟨j + 1, ls, by omega, by go_num, HS⟩
        case measure => simp only [intOf]; omega
      · obtain rfl : m0 = j := by omega
        clear hlt hj
        rename World => wr
        obtain ⟨x0, x1, x2, x3, _, _, _, _⟩ := four HT.out.tb
        go_wp2_with fail
        clear x0 x1 x2 x3
        go_loopw [83] (fun s83 wr => ∃ (j : Nat) (ls : List Int), j ≤ m1 ∧ s83 = .int .i64 (j : Int) ∧ Hid (Tn w3 wr h d m0 m1 m2 m3 vs us ls A4 m4 c4 r.e r.n)) (fun s83 _ => m1 - (intOf s83).toNat)
        case atStart => exact ⟨0, _, Nat.zero_le _, rfl, HT⟩
        case round =>
          clear HT
          obtain ⟨j, ls, hj, rfl, HT⟩ := hrel
          by_cases hlt : j < m1
          · obtain ⟨gr, hgr, _, _⟩ := own_addr HT.out.qrow (by omega)
            have hji : (j : Int) < (m1 : Int) := by omega
            have hwj : IntKind.i64.wrap ((j : Int) + 1) = (j : Int) + 1 := IntWalk.i64_in _ (by have := HT.out.len; omega)
            obtain ⟨v0, hv0⟩ : ∃ v, vs[j]? = some v := ⟨_, List.getElem?_eq_getElem (by have := HT.out.qrow.1; omega)⟩
            obtain ⟨A90, m90, c90, rfl, _⟩ := HT.out.qs v0 (List.mem_of_getElem? hv0)
            have HM0 := Lib.hid (HT.out.ql _ _ _ (List.mem_of_getElem? hv0))
            have HV0 := Lib.hid hv0
            clear hv0
            obtain ⟨x0, x1, x2, x3, _, _, _, _⟩ := four HT.out.tb
            rw [hgr] at x1
            have hq := HT.out.qrow
            rw [hgr] at hq
            have hck := (hq.cellAt j (by have := HT.out.qrow.1; omega)).trans HV0.out
            clear hq
            go_wp2_with fail
            clear x0 x1 x2 x3 hck
            go_loopw [92] (fun s92 wr => ∃ (l : Nat), l ≤ m90 ∧ s92 = .int .i64 (l : Int) ∧ Hid (Tn w3 wr h d m0 m1 m2 m3 vs us ls A4 m4 c4 r.e r.n)) (fun s92 _ => m90 - (intOf s92).toNat)
            case atStart => exact ⟨0, Nat.zero_le _, rfl, HT⟩
            case round =>
              clear HT
              obtain ⟨l, hl, rfl, HT⟩ := hrel
              by_cases hlt : l < m90
              · have hq := HT.out.qrow
                rw [hgr] at hq
                have hck := (hq.cellAt j (by have := HT.out.qrow.1; omega)).trans HV0.out
                obtain ⟨_, _, _, e9, hm⟩ := HT.out.qs _ (List.mem_of_getElem? HV0.out)
                injection e9 with e1 e2 e3
                subst e1 e2 e3
                obtain ⟨gb, hgb, hb⟩ := hm (by omega)
                rw [hgb] at hck
                obtain ⟨hg1, hf, x, hx0, hx1, hc⟩ := hb.at hlt
                have hu := up8 x hx0 hx1
                have hli : (l : Int) < (m90 : Int) := by omega
                have hwl : IntKind.i64.wrap ((l : Int) + 1) = (l : Int) + 1 := IntWalk.i64_in _ (by have := HM0.out; omega)
                obtain ⟨x0, x1, x2, x3, _, _, _, _⟩ := four HT.out.tb
                rw [hgr] at x1
                have HS := Lib.hid (HT.out.set_ (i := l) hb (show 0 ≤ (x + 1) % 256 by omega) (by omega))
                clear HT hb hg1 hq hm hgb
                go_wp2_with fail
                go_roundw
                case rel => exact ⟨l + 1, by omega, by go_num, HS⟩
                case measure => simp only [intOf]; omega
              · obtain rfl : m90 = l := by omega
                clear hlt hl
                rename World => wr
                obtain ⟨x0, x1, x2, x3, _, _, _, _⟩ := four HT.out.tb
                go_wp2_with fail
                go_roundw
                case rel => exact ⟨j + 1, ls, by omega, by go_num, HT⟩
                case measure => simp only [intOf]; omega
          · obtain rfl : m1 = j := by omega
            clear hlt hj
            rename World => wr
            obtain ⟨x0, x1, x2, x3, _, _, _, _⟩ := four HT.out.tb
            go_wp2_with fail
            clear x0 x1 x2 x3
            go_loopw [110] (fun s110 wr => ∃ (j : Nat) (ls : List Int), j ≤ m2 ∧ s110 = .int .i64 (j : Int) ∧ Hid (Tn w3 wr h d m0 m1 m2 m3 vs us ls A4 m4 c4 r.e r.n)) (fun s110 _ => m2 - (intOf s110).toNat)
            case atStart => exact ⟨0, _, Nat.zero_le _, rfl, HT⟩
            case round =>
              clear HT
              obtain ⟨j, ls, hj, rfl, HT⟩ := hrel
              by_cases hlt : j < m2
              · obtain ⟨gl, zl, hgl, hf, hc, hset⟩ := HT.out.lock hlt
                have hji : (j : Int) < (m2 : Int) := by omega
                have hwj : IntKind.i64.wrap ((j : Int) + 1) = (j : Int) + 1 := IntWalk.i64_in _ (by have := HT.out.len; omega)
                obtain ⟨x0, x1, x2, x3, _, _, _, _⟩ := four HT.out.tb
                rw [hgl] at x2
                have HS := Lib.hid (hset (wrap64 (zl + 1)))
                clear HT hset hgl
                go_wp2_with fail
                go_roundw
                case rel => exact ⟨j + 1, _, by omega, by go_num, HS⟩
                case measure => simp only [intOf]; omega
              · obtain rfl : m2 = j := by omega
                clear hlt hj
                rename World => wr
                obtain ⟨x0, x1, x2, x3, _, _, _, _⟩ := four HT.out.tb
                go_wp2_with fail
                clear x0 x1 x2 x3
                go_loopw [124] (fun s124 wr => ∃ (j : Nat) (ls : List Int), j ≤ m3 ∧ s124 = .int .i64 (j : Int) ∧ Hid (Tn w3 wr h d m0 m1 m2 m3 vs us ls A4 m4 c4 r.e r.n)) (fun s124 _ => m3 - (intOf s124).toNat)
                case atStart => exact ⟨0, _, Nat.zero_le _, rfl, HT⟩
                case round =>
                  clear HT
                  obtain ⟨j, ls, hj, rfl, HT⟩ := hrel
                  by_cases hlt : j < m3
                  · obtain ⟨gr, hgr, _, _⟩ := own_addrS HT.out.mrow (by omega)
                    have hji : (j : Int) < (m3 : Int) := by omega
                    have hwj : IntKind.i64.wrap ((j : Int) + 1) = (j : Int) + 1 := IntWalk.i64_in _ (by have := HT.out.len; omega)
                    obtain ⟨v0, hv0⟩ : ∃ v, us[(j * 2)]? = some v := ⟨_, List.getElem?_eq_getElem (by have := HT.out.mrow.1; omega)⟩
                    obtain ⟨A90, m90, c90, rfl, _⟩ := HT.out.ms v0 (List.mem_of_getElem? hv0)
                    have HM0 := Lib.hid (HT.out.ml _ _ _ (List.mem_of_getElem? hv0))
                    have HV0 := Lib.hid hv0
                    clear hv0
                    obtain ⟨v1, hv1⟩ : ∃ v, us[(j * 2 + 1)]? = some v := ⟨_, List.getElem?_eq_getElem (by have := HT.out.mrow.1; omega)⟩
                    obtain ⟨A91, m91, c91, rfl, _⟩ := HT.out.ms v1 (List.mem_of_getElem? hv1)
                    have HM1 := Lib.hid (HT.out.ml _ _ _ (List.mem_of_getElem? hv1))
                    have HV1 := Lib.hid hv1
                    clear hv1
                    obtain ⟨x0, x1, x2, x3, _, _, _, _⟩ := four HT.out.tb
                    rw [hgr] at x3
                    have hq := HT.out.mrow
                    rw [hgr] at hq
                    have hck := (hq.cellAt (j * 2) (by have := HT.out.mrow.1; omega)).trans HV0.out
                    clear hq
                    go_wp2_with fail
                    clear x0 x1 x2 x3 hck
                    go_loopw [134] (fun s134 wr => ∃ (l : Nat), l ≤ m90 ∧ s134 = .int .i64 (l : Int) ∧ Hid (Tn w3 wr h d m0 m1 m2 m3 vs us ls A4 m4 c4 r.e r.n)) (fun s134 _ => m90 - (intOf s134).toNat)
                    case atStart => exact ⟨0, Nat.zero_le _, rfl, HT⟩
                    case round =>
                      clear HT
                      obtain ⟨l, hl, rfl, HT⟩ := hrel
                      by_cases hlt : l < m90
                      · have hq := HT.out.mrow
                        rw [hgr] at hq
                        have hck := (hq.cellAt (j * 2) (by have := HT.out.mrow.1; omega)).trans HV0.out
                        obtain ⟨_, _, _, e9, hm⟩ := HT.out.ms _ (List.mem_of_getElem? HV0.out)
                        injection e9 with e1 e2 e3
                        subst e1 e2 e3
                        obtain ⟨gb, hgb, hb⟩ := hm (by omega)
                        rw [hgb] at hck
                        obtain ⟨hg1, hf, x, hx0, hx1, hc⟩ := hb.at hlt
                        have hu := up8 x hx0 hx1
                        have hli : (l : Int) < (m90 : Int) := by omega
                        have hwl : IntKind.i64.wrap ((l : Int) + 1) = (l : Int) + 1 := IntWalk.i64_in _ (by have := HM0.out; omega)
                        obtain ⟨x0, x1, x2, x3, _, _, _, _⟩ := four HT.out.tb
                        rw [hgr] at x3
                        have HS := Lib.hid (HT.out.set_ (i := l) hb (show 0 ≤ (x + 1) % 256 by omega) (by omega))
                        clear HT hb hg1 hq hm hgb
                        go_wp2_with fail
                        go_roundw
                        case rel => exact ⟨l + 1, by omega, by go_num, HS⟩
                        case measure => simp only [intOf]; omega
                      · obtain rfl : m90 = l := by omega
                        clear hlt hl
                        rename World => wr
                        obtain ⟨x0, x1, x2, x3, _, _, _, _⟩ := four HT.out.tb
                        rw [hgr] at x3
                        have hq := HT.out.mrow
                        rw [hgr] at hq
                        have hck := (hq.cellAt (j * 2 + 1) (by have := HT.out.mrow.1; omega)).trans HV1.out
                        clear hq
                        go_wp2_with fail
                        clear x0 x1 x2 x3 hck
                        go_loopw [156] (fun s156 wr => ∃ (l : Nat), l ≤ m91 ∧ s156 = .int .i64 (l : Int) ∧ Hid (Tn w3 wr h d m0 m1 m2 m3 vs us ls A4 m4 c4 r.e r.n)) (fun s156 _ => m91 - (intOf s156).toNat)
                        case atStart => exact ⟨0, Nat.zero_le _, rfl, HT⟩
                        case round =>
                          clear HT
                          obtain ⟨l, hl, rfl, HT⟩ := hrel
                          by_cases hlt : l < m91
                          · have hq := HT.out.mrow
                            rw [hgr] at hq
                            have hck := (hq.cellAt (j * 2 + 1) (by have := HT.out.mrow.1; omega)).trans HV1.out
                            obtain ⟨_, _, _, e9, hm⟩ := HT.out.ms _ (List.mem_of_getElem? HV1.out)
                            injection e9 with e1 e2 e3
                            subst e1 e2 e3
                            obtain ⟨gb, hgb, hb⟩ := hm (by omega)
                            rw [hgb] at hck
                            obtain ⟨hg1, hf, x, hx0, hx1, hc⟩ := hb.at hlt
                            have hu := up8 x hx0 hx1
                            have hli : (l : Int) < (m91 : Int) := by omega
                            have hwl : IntKind.i64.wrap ((l : Int) + 1) = (l : Int) + 1 := IntWalk.i64_in _ (by have := HM1.out; omega)
                            obtain ⟨x0, x1, x2, x3, _, _, _, _⟩ := four HT.out.tb
                            rw [hgr] at x3
                            have HS := Lib.hid (HT.out.set_ (i := l) hb (show 0 ≤ (x + 1) % 256 by omega) (by omega))
                            clear HT hb hg1 hq hm hgb
                            go_wp2_with fail
                            go_roundw
                            case rel => exact ⟨l + 1, by omega, by go_num, HS⟩
                            case measure => simp only [intOf]; omega
                          · obtain rfl : m91 = l := by omega
                            clear hlt hl
                            rename World => wr
                            obtain ⟨x0, x1, x2, x3, _, _, _, _⟩ := four HT.out.tb
                            go_wp2_with fail
                            go_roundw
                            case rel => exact ⟨j + 1, ls, by omega, by go_num, HT⟩
                            case measure => simp only [intOf]; omega
                  · obtain rfl : m3 = j := by omega
                    clear hlt hj
                    rename World => wr
                    obtain ⟨x0, x1, x2, _, _, _⟩ := three HT.out.rb
                    go_wp2_with fail
                    clear x0 x1 x2
                    go_loopw [175] (fun s175 wr => ∃ (j : Nat) (ls : List Int), j ≤ m4 ∧ s175 = .int .i64 (j : Int) ∧ Hid (Tn w3 wr h d m0 m1 m2 m3 vs us ls A4 m4 c4 r.e r.n)) (fun s175 _ => m4 - (intOf s175).toNat)
                    case atStart => exact ⟨0, _, Nat.zero_le _, rfl, HT⟩
                    case round =>
                      clear HT
                      obtain ⟨j, ls, hj, rfl, HT⟩ := hrel
                      by_cases hlt : j < m4
                      · obtain ⟨gb, hgb, hb⟩ := HT.out.val (by omega)
                        obtain ⟨hg1, hf, x, hx0, hx1, hc⟩ := hb.at hlt
                        have hu := up8 x hx0 hx1
                        have hji : (j : Int) < (m4 : Int) := by omega
                        have hwj : IntKind.i64.wrap ((j : Int) + 1) = (j : Int) + 1 := IntWalk.i64_in _ (by have := HT.out.len; omega)
                        obtain ⟨x0, x1, x2, _, _, _⟩ := three HT.out.rb
                        have HS := Lib.hid (HT.out.set_ (i := j) hb (show 0 ≤ (x + 1) % 256 by omega) (by omega))
                        rw [hgb] at x1
                        clear HT hb hg1
                        go_wp2_with fail
                        go_roundw
                        case rel => exact ⟨j + 1, ls, by omega, by go_num, HS⟩
                        case measure => simp only [intOf]; omega
                      · obtain rfl : m4 = j := by omega
                        clear hlt hj
                        rename World => wr
                        have HS9 := Lib.hid (HS3.out.below HT.out.bel)
                        have HK9 := Lib.hid (HK.out.below HT.out.bel)
                        have HRC9 := Lib.hid (HRC.out.below' HT.out.bel)
                        obtain ⟨x0, x1, x2, _, _, _⟩ := three HT.out.rb
                        go_upto_region 48 with fail
                        clear x0 x1 x2 HT
                        rw [← HWAS.out]
                        clear HWAS
                        have hx := HS9.out.b1
                        simp only [objC] at hx
                        obtain ⟨x0, x1, x2, x3, _, _, _, _⟩ := four hx
                        have hy := HS9.out.b2
                        simp only [objC] at hy
                        obtain ⟨v0, v1, v2, v3, _, _, _, _⟩ := four hy
                        clear hx hy
                        have hsame := sameO_any wr HS9.out.i1 HS9.out.i2 HS9.out.o1.rd HS9.out.o2.rd
                        rw [Ob.same_self] at hsame
                        have HSA := Lib.hid hsame
                        clear hsame
                        go_wp2_with fail
                        refine HSA.out.mono ?_
                        rintro e w8 ⟨rfl, hb8⟩
                        have HK8 := Lib.hid (HK9.out.below hb8)
                        have HRC8 := Lib.hid (HRC9.out.below' hb8)
                        have HB8 := Lib.hid (HS9.out.bel.trans (hb8.mono HS9.out.bel.size))
                        clear hb8 x0 x1 x2 x3 v0 v1 v2 v3 HSA
                        obtain ⟨y0, y1, y2, y3, y4⟩ := five HK8.out
                        have k1 := str_of (c := ca.cv) HRC8.out.rv
                        have k2 := str_of (c := ca.ck) HRC8.out.rk
                        have n1 : ¬ 9223372036854775807 < (strB c.val).size + 1 := by rw [strB_sizeO]; have := HF.out.val.1; omega
                        have n2 : ¬ 9223372036854775807 < (strB c.val).size + 1 + (strB c.key).size := by rw [strB_sizeO, strB_sizeO]; have h1 := HF.out.val.1; have h2 := HF.out.key.1; omega
                        go_wp2_with fail
                        refine (hA _).mono ?_
                        rintro e w9 ⟨rfl, hb9⟩
                        go_wp2_with fail
                        go_ret
                        exact ⟨rfl, HB8.out.trans (hb9.mono HB8.out.size)⟩
end Go.Proofs.Ytclbhcbeocapgaa
