/- What is missing in a window, for one type of things. -/
import Derived.Test.YteafbljdlcbckaaWindQI
import Derived.Test.YteafbljdlcbckaaWindPI
import Derived.Shelf.Abstract
import Derived.Shelf.RegionOpen
namespace Go.Proofs.Yteafbljdlcbckaa.WI
open Go.RowKit
set_option linter.unusedVariables false
attribute [local go_sem] Oper.semAt_some
/-- how many are told at most -/
def most64 (n : Int) : Nat := (min (max n 0) 64).toNat
theorem run_min64 {P : Program} (w : World) (ts : Array TypeId) (t : TypeId) (n : Int) :
    (Builtin.min_ ts t #[.int .i64 (max n 0), .int .i64 64]).run P w = .ok (.int .i64 (most64 n : Nat)) w := by
  have e : ((most64 n : Nat) : Int) = if (64 : Int) < max n 0 then 64 else max n 0 := by unfold most64; omega
  rw [e]
  simp [Builtin.min_, Builtin.min2]
def cellInt (w : World) (B : Nat) : Int := match w.cell? ⟨B, 0, none⟩ with | some v => intOf v | _ => 0
theorem cellInt_of {w : World} {B : Nat} {t : TypeId} {z : Int} (h : Blk w B t #[.int .i64 z]) : cellInt w B = z := by unfold cellInt; rw [h.cell 0]; rfl
/-- what Missing's three boxes hold between two rounds -/
def MissI (w0 : World) (B3 B5 B6 Lb m : Nat) (st : List Int × Int) (W : World) : Prop :=
  Blk W B3 3 #[.int .i64 (m : Int)] ∧ (∃ A n c, Blk W B5 22 #[.slice A n c] ∧ W.ownsRow Lb 3 1 (.slice A n c) n (iv st.1)) ∧ Blk W B6 3 #[.int .i64 st.2] ∧ Below w0.heap.size w0 W ∧ Lb ≤ W.heap.size ∧ (m ≤ 64 ∧ st.1.length ≤ m ∧ B3 < Lb ∧ B5 < Lb ∧ B6 < Lb ∧ w0.heap.size ≤ B3 ∧ B3 < B5 ∧ B5 < B6)
theorem missI_own {β : Type} (w0 : World) (B3 B5 B6 Lb m : Nat) (f : β → List Int × Int) (hL : w0.heap.size ≤ Lb) : OwnFrom Lb (fun s W => MissI w0 B3 B5 B6 Lb m (f s) W) := by
  rintro s W W' row ⟨h3, ⟨A, n, c, h5, ho⟩, h6, hB, hLW, hn⟩ hg hr
  have hb : ∀ {g : Nat} {t : TypeId} {cs : Array Value}, Blk W g t cs → some g ≠ row := by
    rintro g t cs hb e
    obtain ⟨_, o, ho, hc⟩ := hr g e.symm
    rw [show W.heap[g]? = _ from hb] at ho
    cases ho; cases hc
  refine ⟨h3.grown hg (hb h3), ⟨A, n, c, h5.grown hg (hb h5), ho.kept hg ?_⟩, h6.grown hg (hb h6), hB.grown hg hB.size (fun k e => Nat.le_trans hL (hr k e).1), Nat.le_trans hLW hg.size, hn⟩
  rcases ho.2 with ⟨h1, _⟩ | ⟨g, cap, cur, h1, _, hgb, _⟩
  · rw [h1]; exact .inl rfl
  · rw [h1]; exact .inr (fun e => hb (g := g) hgb (by simpa [Value.ownBlock] using e))
theorem miss_end {w0 W : World} {B3 B5 B6 Lb m : Nat} {l : List Int} {y : Int} (h : MissI w0 B3 B5 B6 Lb m (l, y) W) (z : Int) : MissI w0 B3 B5 B6 Lb m (l, z) (W.setCell ⟨B6, 0, none⟩ (.int .i64 z)) := by
  obtain ⟨h3, ⟨A, n, c, h5, ho⟩, h6, hB, hL, hm, hl, b3, b5, b6, hw, h35, h56⟩ := h
  exact ⟨blk_set_other h3 (by omega) _, ⟨A, n, c, blk_set_other h5 (by omega) _, own_set_other ho b6 0 _⟩, h6.set_ 0 _, hB.setCell (p := ⟨B6, 0, none⟩) (by simp only; omega) _, by simpa [World.setCell] using hL, hm, hl, b3, b5, b6, hw, h35, h56⟩
theorem intT : (Try.prog.info? 3).map (fun i => (i.zero, i.size, i.bytes)) = some (some (.int .i64 0), 1, 8) := by kernel_rfl
theorem cutAtS_some {A : Option Addr} {c k size g o : Nat} (h : cutAtS A c k size = some ⟨g, o, none⟩) : ∃ a, A = some a ∧ a.block = g := by
  unfold cutAtS at h
  split at h
  · exact ⟨_, h, rfl⟩
  · cases A with
    | none => cases h
    | some a =>
      refine ⟨a, rfl, ?_⟩
      simp only [Option.map_some, Option.some.injEq] at h
      unfold Addr.add at h
      split at h
      · rw [h]
      · have := congrArg Addr.block h
        simpa using this
set_option maxRecDepth 100000 in
set_option maxHeartbeats 2000000 in
theorem missing_any (w : World) (base b fr wh : Nat) (ss : List (Option V)) (h : WinR w base b fr wh ss) (hwh : wh = fr + Wd.lead ss) (hbase : base ≤ w.heap.size) (most : Int) :
    Calls Try.prog 18 #[.pointer (some ⟨b, 0, none⟩), .int .i64 most] w fun e w' => ∃ A n c, e = .returned (.slice A n c) ∧
      w'.ownsRow w.heap.size 3 1 (.slice A n c) n (iv (Wd.missing (most64 most) fr ss)) ∧ Below w.heap.size w w' := by
  have h1 := fun (w : World) ts t => run_max0 (P := Try.prog) w ts t most
  have h2 := fun (w : World) ts t => run_min64 (P := Try.prog) w ts t most
  have HW := Lib.hid h
  have HN := Lib.hid hwh
  obtain ⟨A, n, c, g1, g2, g3, g4⟩ := h
  have hb1 := g1.lt
  have hc1 := g1.cell 1
  have hc2 := g1.cell 2
  simp at hc1 hc2
  have hll := Wd.lead_le ss
  have hln := len_of g2
  have hfit := g4.out
  have hww : (wh : Int) ≤ 2000000000000 := by omega
  have hkn : Wd.lead ss ≤ n := by omega
  have HR := Lib.hid g2
  have HF := Lib.hid hfit
  have HL := Lib.hid hln
  obtain ⟨i0, hi1, hi2, hi3, hi4⟩ := info_parts slotT
  have hs2 := run_slice_fromS (P := Try.prog) (t := 45) Try.underlying45 hi1 hi3 A n c (Wd.lead ss) hkn
  clear g1 g2 g3 g4 hln hfit hll hi1 hi2 hi3 hi4 hwh
  refine calls_of_wp_marks Try.func18 rfl ?_
  simp only [Try.ntmps18, List.size_toArray, List.length_cons, List.length_nil, Nat.reduceAdd, Nat.reduceSub, Array.replicate_succ, Array.replicate_zero, List.push_toArray, List.append_toArray, List.nil_append, List.cons_append]
  go_wp2_with fail
  obtain ⟨wz, hwz⟩ : ∃ wz, wz = ((w.alloc (.cells #[.int .i64 (most64 most : Nat)] 3)).alloc (.cells #[.slice none 0 0] 22)).alloc (.cells #[.int .i64 ((wh : Int) + 1)] 3) := ⟨_, rfl⟩
  rw [← hwz]
  obtain ⟨B5, hB5⟩ : ∃ B5, B5 = w.heap.size + 1 := ⟨_, rfl⟩
  obtain ⟨B6, hB6⟩ : ∃ B6, B6 = w.heap.size + 1 + 1 := ⟨_, rfl⟩
  rw [← hB6, ← hB5]
  have hBz : Below w.heap.size w wz := by
    rw [hwz]; exact (((Below.refl _ w).alloc (Nat.le_refl _) _).alloc (by simp) _).alloc (by simp; omega) _
  have z3 : Blk wz w.heap.size 3 #[.int .i64 (most64 most : Nat)] := by rw [hwz]; exact ((Blk.new w _ _).alloc _).alloc _
  have z5 : Blk wz B5 22 #[.slice none 0 0] := by
    have := (Blk.new (w.alloc (.cells #[.int .i64 (most64 most : Nat)] 3)) 22 #[.slice none 0 0]).alloc (.cells #[.int .i64 ((wh : Int) + 1)] 3)
    rw [World.size_alloc] at this
    rw [hwz, hB5]; exact this
  have z6 : Blk wz B6 3 #[.int .i64 ((wh : Int) + 1)] := by
    have := Blk.new ((w.alloc (.cells #[.int .i64 (most64 most : Nat)] 3)).alloc (.cells #[.slice none 0 0] 22)) 3 #[.int .i64 ((wh : Int) + 1)]
    rw [World.size_alloc, World.size_alloc] at this
    rw [hwz, hB6]; exact this
  have hzs : wz.heap.size = w.heap.size + 3 := by rw [hwz]; simp
  have hbz : b < wz.heap.size := by omega
  have hb6 : B6 < wz.heap.size := z6.lt
  have hd2 : wz.cell? ⟨b, 2, none⟩ = some (.slice A n c) := (hBz.cell (p := ⟨b, 2, none⟩) hb1).trans hc2
  have hd6 : wz.cell? ⟨B6, 0, none⟩ = some (.int .i64 ((wh : Int) + 1)) := z6.cell 0
  have HWz := Lib.hid (HW.out.below hBz)
  have HB0 := Lib.hid (Below.refl wz.heap.size wz.drew)
  have HP : Hid (Calls Try.prog 21 #[.pointer (some ⟨b, 0, none⟩), .int .i64 ((wh : Int) + 1)] wz.drew fun e w' => e = .returned (.int .i64 (Wd.lead ss : Nat)) ∧ wz.drew = w') := by
    have := place_any wz.drew base b fr wh ss HWz.out.drew (Wd.lead ss) (by have := HF.out; unfold Fit; omega)
    rw [show (fr : Int) + 1 + (Wd.lead ss : Int) = (wh : Int) + 1 by have := HN.out; omega] at this
    exact Lib.hid this
  have HZS := Lib.hid hzs
  have HB5 := Lib.hid hB5
  have HB6 := Lib.hid hB6
  have h56 : B5 < B6 := by omega
  have h35 : w.heap.size < B5 := by omega
  clear hwz hc1 hc2 hB5 hB6 hzs
  refine wp_calm ?_
  refine wp_region_held_drew (S := fun wq => Below wz.heap.size wz.drew wq) (by kernel_rfl) (Below.refl _ _) (fun _ => ?_)
  refine wpAnyH_take (i := 0) (v := .int .i64 ((wh : Int) + 1)) rfl (by kernel_rfl) (by kernel_rfl) (by kernel_rfl) (fun _ _ _ h => h) (Or.inl ⟨by kernel_rfl, fun wq h => by have hf := (h.cell (p := ⟨B6, 0, none⟩) hb6).trans hd6; go_simp⟩) HB0.out ?_
  refine wpAnyH_take (i := 1) (v := .pointer (some ⟨b, 0, none⟩)) rfl (by kernel_rfl) (by kernel_rfl) (by kernel_rfl) (fun _ _ _ h => h) (Or.inl ⟨by kernel_rfl, fun w _ => by go_simp⟩) HB0.out ?_
  refine wpAnyH_take (i := 2) (v := .pointer (some ⟨b, 0, none⟩)) rfl (by kernel_rfl) (by kernel_rfl) (by kernel_rfl) (fun _ _ _ h => h) (Or.inl ⟨by kernel_rfl, fun w _ => by go_simp⟩) HB0.out ?_
  refine wpAnyH_take (i := 3) (v := .pointer (some ⟨b, 2, none⟩)) rfl (by kernel_rfl) (by kernel_rfl) (by kernel_rfl) (fun _ _ _ h => h) (Or.inl ⟨by kernel_rfl, fun w _ => by go_simp⟩) HB0.out ?_
  refine wpAnyH_take (i := 4) (v := .slice A n c) rfl (by kernel_rfl) (by kernel_rfl) (by kernel_rfl) (fun _ _ _ h => h) (Or.inl ⟨by kernel_rfl, fun wq h => by have hf := (h.cell (p := ⟨b, 2, none⟩) hbz).trans hd2; go_simp⟩) HB0.out ?_
  refine wpAnyH_take (i := 5) (v := .pointer (some ⟨b, 0, none⟩)) rfl (by kernel_rfl) (by kernel_rfl) (by kernel_rfl) (fun _ _ _ h => h) (Or.inl ⟨by kernel_rfl, fun w _ => by go_simp⟩) HB0.out ?_
  refine wpAnyH_take (i := 6) (v := .int .i64 ((wh : Int) + 1)) rfl (by kernel_rfl) (by kernel_rfl) (by kernel_rfl) (fun _ _ _ h => h) (Or.inl ⟨by kernel_rfl, fun wq h => by have hf := (h.cell (p := ⟨B6, 0, none⟩) hb6).trans hd6; go_simp⟩) HB0.out ?_
  refine wpAnyH_ready (rs := [7]) (by kernel_rfl) (by simp) ?_
  refine AllReadyH.cons rfl (fun K hK => ?_) AllReadyH.nil
  go_simp
  refine HP.out.mono ?_
  rintro e w3 ⟨rfl, rfl⟩
  go_simp
  refine hK.out _ _ HB0.out (fun _ => ?_)
  clear hK K
  refine wpAnyH_ready (rs := [8]) (by kernel_rfl) (by simp) ?_
  refine AllReadyH.cons rfl (fun K hK => ?_) AllReadyH.nil
  go_simp
  refine hK.out _ _ HB0.out (fun _ => ?_)
  clear hK K
  refine wpAnyH_ready (rs := [9]) (by kernel_rfl) (by simp) ?_
  refine AllReadyH.cons rfl (fun K hK => ?_) AllReadyH.nil
  go_simp
  refine (rising_any _ _ _ _ _).mono ?_
  rintro e w3 ⟨rfl, rfl⟩
  go_simp
  refine hK.out _ _ ((HB0.out.alloc (by simp) _).alloc (by simp) _) (fun _ => ?_)
  clear hK K
  refine wpAnyH_done (by kernel_rfl) ?_ _
  refine calm_normal ?_
  go_wp2_with fail
  have hrl := (HR.out.below hBz).drop hkn
  rw [Wd.cells_drop] at hrl
  obtain ⟨ks, hks, hkk⟩ := seq_of (first := (wh : Int) + 1) hrl (by have := HZS.out; omega)
  have hks := hks.drew
  obtain ⟨wl, hwl⟩ : ∃ wl, wl = ((wz.alloc (.cells #[.int .i64 ((wh : Int) + 1)] 3)).alloc (.cells #[.slice (cutAtS A c (Wd.lead ss) 2) (n - Wd.lead ss) (c - Wd.lead ss)] 45)).drew := ⟨_, rfl⟩
  rw [← hwl] at hks ⊢
  have hwls : wl.heap.size = wz.heap.size + 2 := by rw [hwl]; simp [World.size_alloc]
  have l3 : Blk wl w.heap.size 3 #[.int .i64 (most64 most : Nat)] := by rw [hwl]; exact ((z3.alloc _).alloc _).drew
  have l5 : Blk wl B5 22 #[.slice none 0 0] := by rw [hwl]; exact ((z5.alloc _).alloc _).drew
  have l6 : Blk wl B6 3 #[.int .i64 ((wh : Int) + 1)] := by rw [hwl]; exact ((z6.alloc _).alloc _).drew
  have hBl : Below w.heap.size w wl := by
    rw [hwl]; exact ((hBz.alloc hBz.size _).alloc (by simp; have := hBz.size; omega) _).drew
  have hksl : ∀ k ∈ ks, k < wl.heap.size ∧ k ≠ w.heap.size ∧ k ≠ B5 ∧ k ≠ B6 := by
    intro k hk
    have hz := HZS.out
    have e5 := HB5.out
    have e6 := HB6.out
    rcases hkk k hk with rfl | ⟨o, ho⟩
    · omega
    · obtain ⟨a, ha, rfl⟩ := cutAtS_some ho
      rcases HR.out.blk with ⟨e2, _⟩ | ⟨g, o', cur, e2, _, hgb, _⟩
      · rw [e2] at ha; cases ha
      · rw [ha] at e2
        injection e2 with e2
        subst e2
        have := hgb.lt
        simp only
        omega
  have hmost : most64 most ≤ 64 := by unfold most64; omega
  have hd1 : (0 : Int) ≤ (wh : Int) + 1 := by omega
  refine (wpIn_wide (n := 20)).1 ?_
  refine wpIn_rangeFunc_ownG (α := { x : Int × V // 0 ≤ x.1 ∧ x.1 ≤ 4000000000000 }) rfl (by omega) (gf := 36) (lb := #[.pointer (some ⟨wz.heap.size + 1, 0, none⟩), .pointer (some ⟨wz.heap.size, 0, none⟩)]) rfl trivial (Go.Proofs.enters_of Try.func36 (by kernel_rfl) rfl)
    (rising_stops Fence.wide 19 trivial rfl (by omega) (fun x => 0 ≤ x.1 ∧ x.1 ≤ 4000000000000) base ((wh : Int) + 1) (ss.drop (Wd.lead ss)) _ _ ks wl hks (fun x hx => by
      obtain ⟨k, hk1, hk2⟩ := Wd.mem_pairs.1 hx
      have hk3 := (List.getElem?_eq_some_iff.1 hk1).1
      rw [List.length_drop] at hk3
      have := HF.out; have := HL.out
      show 0 ≤ x.1 ∧ x.1 ≤ 4000000000000
      omega) hd1 (by omega) (by have := HF.out; have := HL.out; unfold Fit; rw [List.length_drop]; omega))
    keepsK_t (keepsK_b (fun k hk => (hksl k hk).1)) (Below.refl _ _) (fun _ => rfl)
    (fun pre W => MissI w w.heap.size B5 B6 wl.heap.size (most64 most) (Wd.gaps (most64 most) ((wh : Int) + 1) (pre.map fun x => x.1.1)) W)
    (fun _ _ _ => False)
    (missI_own w w.heap.size B5 B6 wl.heap.size (most64 most) _ hBl.size)
    (fun _ _ _ _ _ hs _ _ => hs)
    ⟨l3, ⟨none, 0, 0, l5, World.ownsRow_nil _ _ _ _⟩, l6, hBl, Nat.le_refl _, hmost, by simp [Wd.gaps], by have := HZS.out; omega, by have := l5.lt; omega, by have := l6.lt; omega, Nat.le_refl _, h35, h56⟩
    ?a₁ ?assign ?body ?done ?stop
  case assign =>
    intro l x W K hK
    gi_wp2
    exact hK
  case body =>
    rintro l pre x W hI hlen
    have hbd := Wd.gaps_bd (most64 most) ((wh : Int) + 1) (pre.map fun x => x.1.1) hd1 (by omega) (by
      intro i hi
      obtain ⟨y, _, rfl⟩ := List.mem_map.1 hi
      exact y.2)
    have HG := Lib.hid (Wd.gaps_snoc (most64 most) ((wh : Int) + 1) (pre.map fun x => x.1.1) x.1.1)
    obtain ⟨i, hi⟩ : ∃ i, i = x.1.1 := ⟨_, rfl⟩
    have hib := x.2
    rw [← hi] at HG hib ⊢
    obtain ⟨m, hm⟩ : ∃ m, m = most64 most := ⟨_, rfl⟩
    rw [← hm] at HG hI hbd
    obtain ⟨⟨zs, nx⟩, hst⟩ : ∃ st, st = Wd.gaps m ((wh : Int) + 1) (pre.map fun x => x.1.1) := ⟨_, rfl⟩
    rw [← hst] at HG hI hbd
    obtain ⟨hnx0, hnx1⟩ := hbd
    simp only at hnx0 hnx1
    have HI := Lib.hid hI
    have HM := Lib.hid hm
    have hmm : (m : Int) ≤ 64 := by have := hI.2.2.2.2.2.1; omega
    have HKs := Lib.hid hksl
    have HLB := Lib.hid hI.2.2.2.2.1
    obtain ⟨i1, hi1, hi2, hi3, hi4⟩ := info_parts intT
    have HJ1 := Lib.hid hi1
    have HJ2 := Lib.hid hi2
    have HJ3 := Lib.hid hi3
    have HJ4 := Lib.hid hi4
    have HIX := Lib.hid hi
    clear hwls hi hm hst hlen hI hksl hi1 hi2 hi3 hi4 hd2 hd6 z3 z5 z6 l3 l5 l6 hwl
    gi_wp2
    gi_loopw [28] (fun _ wr => ∃ j : Nat, j ≤ min (m - zs.length) (i - nx).toNat ∧ MissI w w.heap.size B5 B6 wl.heap.size m (zs ++ Wd.nums nx j, nx + (j : Int)) wr ∧ KeepsFrom wl.heap.size W wr ∧ KeepsK ks W wr) (fun _ wr => (i - cellInt wr B6).toNat)
    case atStart => exact ⟨0, Nat.zero_le _, by simpa [Wd.nums] using HI.out, KeepsFrom.refl _ _, keepsK_refl _ _⟩
    case round =>
      obtain ⟨j, hj, ⟨q3, ⟨A1, n1, c1, q5, qo⟩, q6, qB, hLw, hmx, hlm, hb3, hb5, hb6', hw3, h3', h5'⟩, hkf, hkk1⟩ := hrel
      have hn1 : n1 = zs.length + j := by have := qo.1; rw [iv_length, List.length_append, Wd.nums_length] at this; omega
      have hc3 := q3.cell 0
      have hc5 := q5.cell 0
      have hc6 := q6.cell 0
      have hf5 := q5.frozen 0
      have hf6 := q6.frozen 0
      simp at hc3 hc5 hc6
      have hv : IntKind.i64.wrap (nx + (j : Int) + 1) = nx + (j : Int) + 1 := IntWalk.i64_in _ (by omega)
      have hne : ¬ B6 = B5 := by omega
      have hne' : ¬ B5 = B6 := by omega
      have Q3 := Lib.hid q3
      have Q5 := Lib.hid q5
      have Q6 := Lib.hid q6
      have QO := Lib.hid qo
      have QB := Lib.hid qB
      have QF := Lib.hid hkf
      have QK := Lib.hid hkk1
      have HN1 := Lib.hid hn1
      have HLM := Lib.hid hlm
      have HJm := Lib.hid hj
      clear q3 q5 q6 qo qB hkf hkk1 hlm
      by_cases hA : nx + (j : Int) < i
      · by_cases hB : n1 < m
        · have hB' : (n1 : Int) < (m : Int) := by omega
          clear hn1 hj
          gi_wp2_with (gi_at_builtin; refine wpListIn_append_own _ rfl (.tmp 39) (.tmp 41) 22 rfl wl.heap.size 3 i1 (.int .i64 0) 1 8 Try.underlying22 HJ1.out HJ2.out HJ3.out HJ4.out rfl (by decide) (.slice A1 n1 c1) n1 (iv (zs ++ Wd.nums nx j)) rfl (QO.out.alloc _) ⟨wr.heap.size, 0, none⟩ 1 1 [.int .i64 (nx + (j : Int))] rfl rfl (fun q u hu => by
              rw [addr_add, Nat.zero_add, World.cell?_alloc_mark]; simpa using hu) (by intro u hu; simp at hu; subst hu; rfl) (by unfold maxLen; omega) (by omega) (by simp; omega) ?_; intro v' w3 hown3 hgrow3 hnil3; obtain ⟨g', cap', rfl⟩ := ownsRow_succ hown3; obtain ⟨p1, p2, p3⟩ := append_keeps QO.out hgrow3 hLw; have t3 : Blk w3 w.heap.size 3 #[.int .i64 (m : Int)] := (p1.block _ hb3).trans Q3.out; have t5 : Blk w3 B5 22 #[.slice A1 n1 c1] := (p1.block _ hb5).trans Q5.out; have t6 : Blk w3 B6 3 #[.int .i64 (nx + (j : Int))] := (p1.block _ hb6').trans Q6.out; have d5 := t5.cell 0; have d6 := t6.cell 0; have e5 := t5.frozen 0; have e6 := t6.frozen 0; simp at d5 d6; have T3 := Lib.hid t3; have T5 := Lib.hid t5; have T6 := Lib.hid t6; have P1 := Lib.hid p1; have P2 := Lib.hid p2; have P3 := Lib.hid p3; have HO3 := Lib.hid hown3; clear t3 t5 t6 p1 p2 p3 hown3 hgrow3 hnil3 hc3 hc5 hc6 hf5 hf6)
          go_roundw
          case rel =>
            have hj1 := HJm.out
            have hz1 := HLM.out
            have hn2 := HN1.out
            refine ⟨j + 1, by omega, ⟨blk_set_other (blk_set_other T3.out (by omega) _) (by omega) _, ⟨some ⟨g', 0, none⟩, n1 + 1, cap', blk_set_other (T5.out.set_ 0 _) hne' _, ?_⟩, ?_, ?_, ?_, hmx, ?_, hb3, hb5, hb6', hw3, h3', h5'⟩, ?_, ?_⟩
            · have h5 := own_set_other (own_set_other HO3.out hb5 0 (.slice (some ⟨g', 0, none⟩) (n1 + 1) cap')) hb6' 0 (.int .i64 (nx + (j : Int) + 1))
              have e1 : iv (zs ++ Wd.nums nx (j + 1)) = iv (zs ++ Wd.nums nx j) ++ [.int .i64 (nx + (j : Int))] := by
                rw [Wd.nums_succ, ← List.append_assoc, iv_append]; rfl
              simp only [e1]
              exact h5
            · have h6 := (blk_set_other (i := 0) T6.out hne (.slice (some ⟨g', 0, none⟩) (n1 + 1) cap')).set_ 0 (.int .i64 (nx + (j : Int) + 1))
              have e1 : nx + ((j + 1 : Nat) : Int) = nx + (j : Int) + 1 := by omega
              simp only [e1]
              exact h6
            · exact (((QB.out.trans (P1.out.mono (by omega))).setCell (p := ⟨B5, 0, none⟩) (by simp only; omega) _).setCell (p := ⟨B6, 0, none⟩) (by simp only; omega) _)
            · have := P1.out.size
              simp [World.setCell]; omega
            · simp only [List.length_append, Wd.nums_length]; omega
            · exact QF.out.trans (P2.out.trans (((KeepsOthers.setCell _ _ _).trans (KeepsOthers.setCell _ _ _)).from _))
            · exact keepsK_t QK.out (keepsK_t (P3.out ks (fun k hk => (HKs.out k hk).1)) (keepsK_t (keepsK_set _ 0 _ (fun k hk => (HKs.out k hk).2.2.1)) (keepsK_set _ 0 _ (fun k hk => (HKs.out k hk).2.2.2))))
          case measure =>
            have h6 := (blk_set_other (i := 0) T6.out hne (.slice (some ⟨g', 0, none⟩) (n1 + 1) cap')).set_ 0 (.int .i64 (nx + (j : Int) + 1))
            have e1 := cellInt_of (z := nx + (j : Int) + 1) h6
            rw [e1, cellInt_of Q6.out]
            omega
        · have hB' : ¬ (n1 : Int) < (m : Int) := by omega
          have hjj : j = min (m - zs.length) (i - nx).toNat := by omega
          have HJJ := Lib.hid hjj
          clear hn1 hj hjj
          gi_wp2
          have hI5 := miss_end (z := i + 1) ⟨Q3.out, ⟨A1, n1, c1, Q5.out, QO.out⟩, Q6.out, QB.out, hLw, hmx, HLM.out, hb3, hb5, hb6', hw3, h3', h5'⟩
          refine ⟨QF.out.trans ((KeepsOthers.setCell _ _ _).from _), keepsK_t QK.out (keepsK_set _ 0 _ (fun k hk => (HKs.out k hk).2.2.2)), ?_⟩
          have e1 : Wd.gaps (most64 most) ((wh : Int) + 1) ((pre ++ [x]).map fun x => x.1.1) = (zs ++ Wd.nums nx j, i + 1) := by
            rw [List.map_append, List.map_singleton, ← HIX.out, ← HM.out, HG.out, HJJ.out]; rfl
          show MissI w w.heap.size B5 B6 wl.heap.size (most64 most) (Wd.gaps (most64 most) ((wh : Int) + 1) ((pre ++ [x]).map fun x => x.1.1)) _
          rw [e1, ← HM.out]
          exact hI5
      · have hjj : j = min (m - zs.length) (i - nx).toNat := by omega
        have HJJ := Lib.hid hjj
        clear hn1 hj hjj
        gi_wp2
        have hI5 := miss_end (z := i + 1) ⟨Q3.out, ⟨A1, n1, c1, Q5.out, QO.out⟩, Q6.out, QB.out, hLw, hmx, HLM.out, hb3, hb5, hb6', hw3, h3', h5'⟩
        refine ⟨QF.out.trans ((KeepsOthers.setCell _ _ _).from _), keepsK_t QK.out (keepsK_set _ 0 _ (fun k hk => (HKs.out k hk).2.2.2)), ?_⟩
        have e1 : Wd.gaps (most64 most) ((wh : Int) + 1) ((pre ++ [x]).map fun x => x.1.1) = (zs ++ Wd.nums nx j, i + 1) := by
          rw [List.map_append, List.map_singleton, ← HIX.out, ← HM.out, HG.out, HJJ.out]; rfl
        show MissI w w.heap.size B5 B6 wl.heap.size (most64 most) (Wd.gaps (most64 most) ((wh : Int) + 1) ((pre ++ [x]).map fun x => x.1.1)) _
        rw [e1, ← HM.out]
        exact hI5
  case done =>
    rintro D ys W hD hS ⟨r3, ⟨A1, n1, c1, r5, ro⟩, r6, rB, _⟩ hK
    have hc5 := r5.cell 0
    simp at hc5
    have RO := Lib.hid ro
    have RB := Lib.hid rB
    have HS := Lib.hid hS
    clear r3 r5 r6 ro rB hS hksl
    go_wp2
    refine ⟨by simp, .inl ⟨_, _, rfl, run_takeDeferred hK, ?_⟩⟩
    refine ⟨_, results_tmp rfl _ _ _, A1, n1, c1, rfl, ?_, ?_⟩
    · have e1 : (Wd.gaps (most64 most) ((wh : Int) + 1) (ys.map fun x => x.1.1)).1 = Wd.missing (most64 most) fr ss := by
        have e2 : (ys.map fun x => x.1.1) = (Wd.pairs ((wh : Int) + 1) (ss.drop (Wd.lead ss))).map Prod.fst := by
          rw [← HS.out, List.map_map]; rfl
        rw [e2]
        unfold Wd.missing
        have e3 : ((fr + Wd.lead ss : Nat) : Int) = (wh : Int) := by have := HN.out; omega
        rw [e3]
      rw [← e1]
      exact own_more (ownsRow_putObj RO.out _ hK rfl) hBl.size
    · exact RB.out.trans (belowK_b (w := wl) hBl.size W D _ _ hD hK rfl rfl)
  case stop =>
    rintro D c pre W _ _ h _
    exact h.elim
end Go.Proofs.Yteafbljdlcbckaa.WI
