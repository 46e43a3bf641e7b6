/- BlobRefSame -/
import Derived.Test.YtmekamgohonffaaBF33
import Derived.Test.YtmekamgohonffaaBF35
namespace Go.Proofs.Ytmekamgohonffaa
open Go.RowKit
set_option linter.unusedVariables false
deriving instance DecidableEq for Sb
set_option maxHeartbeats 4000000 in
set_option maxRecDepth 100000 in
theorem refSame15 (w : World) {a a' : SA} {s s' : Sb} {B B' : Nat} (hm : s.m.Ok) (hm' : s'.m.Ok) (hf : ∀ e ∈ s.rest, e.c.Fits) (hf' : ∀ e ∈ s'.rest, e.c.Fits) (hn : s.rest.length ≤ 1000000) (h : RdS w B a s) (h' : RdS w B' a' s') :
    Calls Try.prog 22 #[stateV a s, stateV a' s'] w fun e w' => e = .returned (.bool (decide (s = s'))) ∧ Below w.heap.size w w' := by
  obtain ⟨⟨⟨A0, C0, A1, C1, A2, C2, A3, C3⟩, At, Ct⟩, Ar, Cr⟩ := a
  obtain ⟨⟨⟨D0, E0, D1, E1, D2, E2, D3, E3⟩, Dt, Et⟩, Dr, Er⟩ := a'
  obtain ⟨p, m, es⟩ := s
  obtain ⟨p', m', es'⟩ := s'
  simp only at hm hm' hf hf' hn
  obtain ⟨sm, hsm⟩ : ∃ x, decide (m = m') = x := ⟨_, rfl⟩
  obtain ⟨se, hse⟩ : ∃ x, decide (es = es') = x := ⟨_, rfl⟩
  have CM : Hid (∀ W : World, Below w.heap.size w W → Calls Try.prog 54 #[.agg #[.slice A0 m.o.reg.length C0, .slice A1 m.o.q.length C1, .slice A2 m.o.lk.length C2, .slice A3 m.o.mp.length C3, .slice At m.t.length Ct], .agg #[.slice D0 m'.o.reg.length E0, .slice D1 m'.o.q.length E1, .slice D2 m'.o.lk.length E2, .slice D3 m'.o.mp.length E3, .slice Dt m'.t.length Et]] W fun e w' => e = .returned (.bool sm) ∧ Below W.heap.size W w') := Lib.hid (fun W hW => by
    rw [← hsm]
    exact refSame_any W (a := ⟨⟨A0, C0, A1, C1, A2, C2, A3, C3⟩, At, Ct⟩) (a' := ⟨⟨D0, E0, D1, E1, D2, E2, D3, E3⟩, Dt, Et⟩) hm hm' (RdM.below (RdM.fit h.m) hW) (RdM.below (RdM.fit h'.m) hW))
  have CE : Hid (∀ W : World, Below w.heap.size w W → Calls Try.prog 55 #[.slice Ar es.length Cr, .slice Dr es'.length Er] W fun e w' => e = .returned (.bool se) ∧ Below W.heap.size W w') := Lib.hid (fun W hW => by
    rw [← hse]
    exact refSameEntries W hf hf' (h.fit.r.below hW) (h'.fit.r.below hW) hn)
  have HFIN : Hid (decide ((⟨p, m, es⟩ : Sb) = ⟨p', m', es'⟩) = (decide (p = p') && (sm && se))) := Lib.hid (by
    rw [← hsm, ← hse]
    simp only [Sb.mk.injEq, Bool.decide_and])
  clear h h' hsm hse hm hm' hf hf'
  obtain ⟨g, hg⟩ : ∃ g, w.heap.size = g := ⟨_, rfl⟩
  have k0 : Blk ((w.alloc (.cells #[.int .i64 p, .slice A0 m.o.reg.length C0, .slice A1 m.o.q.length C1, .slice A2 m.o.lk.length C2, .slice A3 m.o.mp.length C3, .slice At m.t.length Ct, .slice Ar es.length Cr] 37)).alloc (.cells #[.int .i64 p', .slice D0 m'.o.reg.length E0, .slice D1 m'.o.q.length E1, .slice D2 m'.o.lk.length E2, .slice D3 m'.o.mp.length E3, .slice Dt m'.t.length Et, .slice Dr es'.length Er] 37)) w.heap.size 37 #[.int .i64 p, .slice A0 m.o.reg.length C0, .slice A1 m.o.q.length C1, .slice A2 m.o.lk.length C2, .slice A3 m.o.mp.length C3, .slice At m.t.length Ct, .slice Ar es.length Cr] := (Blk.new w 37 _).alloc _
  have k1 : Blk ((w.alloc (.cells #[.int .i64 p, .slice A0 m.o.reg.length C0, .slice A1 m.o.q.length C1, .slice A2 m.o.lk.length C2, .slice A3 m.o.mp.length C3, .slice At m.t.length Ct, .slice Ar es.length Cr] 37)).alloc (.cells #[.int .i64 p', .slice D0 m'.o.reg.length E0, .slice D1 m'.o.q.length E1, .slice D2 m'.o.lk.length E2, .slice D3 m'.o.mp.length E3, .slice Dt m'.t.length Et, .slice Dr es'.length Er] 37)) (w.heap.size + 1) 37 #[.int .i64 p', .slice D0 m'.o.reg.length E0, .slice D1 m'.o.q.length E1, .slice D2 m'.o.lk.length E2, .slice D3 m'.o.mp.length E3, .slice Dt m'.t.length Et, .slice Dr es'.length Er] := by
    have := Blk.new (w.alloc (.cells #[.int .i64 p, .slice A0 m.o.reg.length C0, .slice A1 m.o.q.length C1, .slice A2 m.o.lk.length C2, .slice A3 m.o.mp.length C3, .slice At m.t.length Ct, .slice Ar es.length Cr] 37)) 37 #[.int .i64 p', .slice D0 m'.o.reg.length E0, .slice D1 m'.o.q.length E1, .slice D2 m'.o.lk.length E2, .slice D3 m'.o.mp.length E3, .slice Dt m'.t.length Et, .slice Dr es'.length Er]
    rwa [World.size_alloc] at this
  have bb : Below w.heap.size w ((w.alloc (.cells #[.int .i64 p, .slice A0 m.o.reg.length C0, .slice A1 m.o.q.length C1, .slice A2 m.o.lk.length C2, .slice A3 m.o.mp.length C3, .slice At m.t.length Ct, .slice Ar es.length Cr] 37)).alloc (.cells #[.int .i64 p', .slice D0 m'.o.reg.length E0, .slice D1 m'.o.q.length E1, .slice D2 m'.o.lk.length E2, .slice D3 m'.o.mp.length E3, .slice Dt m'.t.length Et, .slice Dr es'.length Er] 37)) := ((Below.refl _ _).alloc (Nat.le_refl _) _).alloc (by rw [World.size_alloc]; omega) _
  have HK0 := Lib.hid k0
  have HK1 := Lib.hid k1
  have HB := Lib.hid bb
  clear k0 k1 bb
  unfold stateV stateC
  simp only
  go_enter Try.func22, Try.ntmps22
  go_upto_region 1 with fail
  generalize ((w.alloc (.cells #[.int .i64 p, .slice A0 m.o.reg.length C0, .slice A1 m.o.q.length C1, .slice A2 m.o.lk.length C2, .slice A3 m.o.mp.length C3, .slice At m.t.length Ct, .slice Ar es.length Cr] 37)).alloc (.cells #[.int .i64 p', .slice D0 m'.o.reg.length E0, .slice D1 m'.o.q.length E1, .slice D2 m'.o.lk.length E2, .slice D3 m'.o.mp.length E3, .slice Dt m'.t.length Et, .slice Dr es'.length Er] 37)) = wx at HK0 HK1 HB ⊢
  rw [hg] at HK0 HK1
  obtain ⟨g1, hg1⟩ : ∃ g1, g + 1 = g1 := ⟨_, rfl⟩
  rw [hg1] at HK1 ⊢
  clear hg1
  have HG := Lib.hid hg
  clear hg
  obtain ⟨x0, x1, x2, x3, x4, x5, x6⟩ := seven HK0.out
  obtain ⟨y0, y1, y2, y3, y4, y5, y6⟩ := seven HK1.out
  obtain ⟨q, hq⟩ : ∃ q, decide (p = p') = q := ⟨_, rfl⟩
  have hq' : (p == p') = q := by rw [← hq]; by_cases h : p = p' <;> simp [h]
  rw [hq] at HFIN
  clear hq
  cases q with
  | false =>
    go_wp2_with fail
    go_ret
    exact ⟨by rw [HFIN.out]; rfl, HB.out⟩
  | true =>
    cases sm with
    | false =>
      go_wp2_with (first
        | (go_at_call 54; refine (CM.out _ HB.out).mono ?_; rintro en w2 ⟨rfl, hb2⟩)
        | fail)
      go_ret
      exact ⟨by rw [HFIN.out]; rfl, HB.out.trans (hb2.mono HB.out.size)⟩
    | true =>
      go_wp2_with (first
        | (go_at_call 54; refine (CM.out _ HB.out).mono ?_; rintro en w2 ⟨rfl, hb2⟩
           have HB2 := Lib.hid (HB.out.trans (hb2.mono HB.out.size))
           obtain ⟨x0', x1', x2', x3', x4', x5', x6'⟩ := seven (HK0.out.below hb2)
           obtain ⟨y0', y1', y2', y3', y4', y5', y6'⟩ := seven (HK1.out.below hb2))
        | (go_at_call 55; refine (CE.out _ HB2.out).mono ?_; rintro en w3 ⟨rfl, hb3⟩)
        | fail)
      go_ret
      exact ⟨by rw [HFIN.out]; simp, HB2.out.trans (hb3.mono HB2.out.size)⟩
end Go.Proofs.Ytmekamgohonffaa

