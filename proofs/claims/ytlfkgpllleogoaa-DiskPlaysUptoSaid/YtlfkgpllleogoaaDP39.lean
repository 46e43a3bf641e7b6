/- RefDisk3 -/
import Derived.Test.YtlfkgpllleogoaaDP38
namespace Go.Proofs.Ytlfkgpllleogoaa
open Go.RowKit
set_option linter.unusedVariables false
def GotDR (W w : World) (x y : List Nat) (e : Ending) (w' : World) : Prop := ∃ A n c A' n' c', e = .returned (.agg #[.slice A n c, .slice A' n' c']) ∧ RdD w' A A' n c n' c' x y ∧ Below W.heap.size W w' ∧ Below w.heap.size w w'
theorem next_ref {x y : List Nat} {RA RB : Option Dk.Rc} (hA : Dk.parse x = RA) (hB : Dk.parse y = RB) :
    (slotN RA < 0 → slotN RB < 0 → ((Dk.next x y : Nat) : Int) = 1 ∧ Dk.keeps x y = false) ∧ (0 ≤ slotN RA → slotN RB ≤ slotN RA → ((Dk.next x y : Nat) : Int) = slotN RA + 1 ∧ Dk.keeps x y = true) ∧ (slotN RA < slotN RB → ((Dk.next x y : Nat) : Int) = slotN RB + 1 ∧ Dk.keeps x y = false) := by
  subst hA; subst hB
  refine ⟨fun h1 h2 => ?_, fun h1 h2 => ?_, fun h1 => ?_⟩
  · obtain ⟨e, _, _⟩ := pick_no h1 h2
    obtain ⟨k1, k2⟩ := Dk.keeps_pick e
    rw [k1, k2]; exact ⟨rfl, rfl⟩
  · obtain ⟨e, hs⟩ := pick_a h1 h2
    obtain ⟨k1, k2⟩ := Dk.keeps_pick e
    obtain ⟨z, hz⟩ := isSome_some hs
    rw [k1, k2, hz]; exact ⟨by simp [slotN], rfl⟩
  · obtain ⟨e, hs⟩ := pick_b h1
    obtain ⟨k1, k2⟩ := Dk.keeps_pick e
    obtain ⟨z, hz⟩ := isSome_some hs
    rw [k1, k2, hz]; exact ⟨by simp [slotN], rfl⟩
inductive KE where
  | eq (u : Value)
  | own (W : World) (L : List Nat)
  | emp (W : World)
  | dsk (W : World) (x y : List Nat)
  | blk (W : World) (t : TypeId) (cs : Array Value)
def VE (ks : List KE) (i : Nat) (v : Value) (w : World) : Prop := match ks[i]? with
  | some (.eq u) => v = u
  | some (.own W L) => ∃ A c, v = .slice A L.length c ∧ OwnB W w A L.length c L
  | some (.emp W) => ∃ g, v = .slice (some ⟨g, 0, none⟩) 0 0 ∧ OwnB W w (some ⟨g, 0, none⟩) 0 0 []
  | some (.dsk W x y) => ∃ A c A' c', v = .agg #[.slice A x.length c, .slice A' y.length c'] ∧ OwnB W w A x.length c x ∧ OwnB W w A' y.length c' y
  | some (.blk W t cs) => ∃ g, v = .pointer (some ⟨g, 0, none⟩) ∧ W.heap.size ≤ g ∧ Blk w g t cs
  | _ => True
theorem VE.ext (ks : List KE) (i : Nat) (v : Value) (w w' : World) (h : VE ks i v w) (he : Bw w w') : VE ks i v w' := by
  unfold VE at h ⊢
  cases hk : ks[i]? with
  | none => trivial
  | some k =>
    rw [hk] at h
    cases k with
    | eq u => exact h
    | own W L => obtain ⟨A, c, h1, h2⟩ := h; exact ⟨A, c, h1, own_below h2 he⟩
    | emp W => obtain ⟨g, h1, h2⟩ := h; exact ⟨g, h1, own_below h2 he⟩
    | dsk W x y => obtain ⟨A, c, A', c', h1, h2, h3⟩ := h; exact ⟨A, c, A', c', h1, own_below h2 he, own_below h3 he⟩
    | blk W t cs => obtain ⟨g, h1, h2, h3⟩ := h; exact ⟨g, h1, h2, h3.below he⟩
def dstW9 (i : Nat) : Nat := ([50, 51, 52, 53, 54, 55, 56, 57, 58, 13] : List Nat).getD i 0
def depsW9 (i : Nat) : List Nat := ([[], [], [1], [0, 2], [], [], [5], [4, 6], [3, 7], []] : List (List Nat)).getD i []
def FrW9 (w0 : World) (g1 : Nat) (A A2 : Option Addr) (c c2 : Nat) (x y : List Nat) (a : Act) : Prop := a.eval (.tmp 3) = .pointer (some ⟨g1, 0, none⟩)
def kindsW9 (w0 : World) (g1 : Nat) (A A2 : Option Addr) (c c2 : Nat) (x y : List Nat) : List KE := [.emp w0, .eq (.pointer (some ⟨g1, 0, none⟩)), .eq (.slice A x.length c), .own w0 x, .emp w0, .eq (.pointer (some ⟨g1, 1, none⟩)), .eq (.slice A2 y.length c2), .own w0 y, .dsk w0 x y, .blk w0 44 #[.slice none 0 0, .slice none 0 0]]
def frameW9 (w0 : World) (g1 : Nat) (A A2 : Option Addr) (c c2 : Nat) (x y : List Nat) (x0 x1 x2 x4 x5 x6 x7 x8 x9 x10 x11 x12 x14 x15 x16 x17 x18 x19 x20 x21 x22 x23 x24 x25 x26 x27 x28 x29 x30 x31 x32 x33 x34 x35 x36 x37 x38 x39 x40 x41 x42 x43 x44 x45 x46 x47 x48 x49 x59 x60 x61 x62 x63 x64 x65 x66 x67 x68 x69 x70 : Value) (U : Nat → Value) : Act := { tmps := List.toArray (x0 :: x1 :: x2 :: .pointer (some ⟨g1, 0, none⟩) :: x4 :: x5 :: x6 :: x7 :: x8 :: x9 :: x10 :: x11 :: x12 :: U 13 :: x14 :: x15 :: x16 :: x17 :: x18 :: x19 :: x20 :: x21 :: x22 :: x23 :: x24 :: x25 :: x26 :: x27 :: x28 :: x29 :: x30 :: x31 :: x32 :: x33 :: x34 :: x35 :: x36 :: x37 :: x38 :: x39 :: x40 :: x41 :: x42 :: x43 :: x44 :: x45 :: x46 :: x47 :: x48 :: x49 :: U 50 :: U 51 :: U 52 :: U 53 :: U 54 :: U 55 :: U 56 :: U 57 :: U 58 :: x59 :: x60 :: x61 :: x62 :: x63 :: x64 :: x65 :: x66 :: x67 :: x68 :: x69 :: x70 :: []), defers := [] }
set_option maxHeartbeats 8000000 in
set_option maxRecDepth 100000 in
theorem refwrite_raw {w : World} {A A2 : Option Addr} {c c2 : Nat} {x y : List Nat} (i p q cut : Int) (h : RdD w A A2 x.length c y.length c2 x y) : Calls Try.prog 32 #[.agg #[.slice A x.length c, .slice A2 y.length c2], .agg #[.int .i64 i, .int .i64 p, .int .i64 q], .int .i64 cut] w (GotDR w w (Dk.write x y i p q cut).1 (Dk.write x y i p q cut).2) := by
  obtain ⟨RA, hRA⟩ : ∃ r, Dk.parse x = r := ⟨_, rfl⟩
  obtain ⟨RB, hRB⟩ : ∃ r, Dk.parse y = r := ⟨_, rfl⟩
  have hokA : ∀ z, RA = some z → z.Ok := fun z hz => Dk.parse_ok (hRA.trans hz)
  have hokB : ∀ z, RB = some z → z.Ok := fun z hz => Dk.parse_ok (hRB.trans hz)
  have hna := slotN_le hokA
  have hnb := slotN_le hokB
  have hna0 := slotN_ge RA
  have hnb0 := slotN_ge RB
  obtain ⟨NA, hNA⟩ : ∃ n, slotN RA = n := ⟨_, rfl⟩
  obtain ⟨NB, hNB⟩ : ∃ n, slotN RB = n := ⟨_, rfl⟩
  obtain ⟨ra0, ra1, ra2, hra⟩ : ∃ r0 r1 r2 : Int, recC' RA = #[.int .i64 r0, .int .i64 r1, .int .i64 r2] := ⟨_, _, _, rfl⟩
  obtain ⟨rb0, rb1, rb2, hrb⟩ : ∃ r0 r1 r2 : Int, recC' RB = #[.int .i64 r0, .int .i64 r1, .int .i64 r2] := ⟨_, _, _, rfl⟩
  have HNA := Lib.hid hNA
  have HNB := Lib.hid hNB
  have HRA := Lib.hid hra
  have HRB := Lib.hid hrb
  rw [hNA] at hna hna0
  rw [hNB] at hnb hnb0
  have hnx := next_ref hRA hRB
  rw [hNA, hNB] at hnx
  obtain ⟨NX, hNX⟩ : ∃ n, ((Dk.next x y : Nat) : Int) = n := ⟨_, rfl⟩
  obtain ⟨S, hS⟩ : ∃ s, Dk.slot (Dk.next x y) i p q = s := ⟨_, rfl⟩
  have hSl : S.length ≤ 40 := by rw [← hS]; exact (Dk.slotR_len _).2
  have hSb : ∀ z ∈ S, z < 256 := by rw [← hS]; exact Dk.slotR_lt (Dk.rc_ok _ _ _ _)
  rw [hNX] at hS hnx
  obtain ⟨Y, hY⟩ : ∃ s, Dk.head S cut = s := ⟨_, rfl⟩
  have hwr : Dk.write x y i p q cut = if Dk.keeps x y then (x, Y) else (Y, y) := by
    unfold Dk.write Dk.new
    rw [hNX, hS, hY]
  have HNX := Lib.hid hnx
  have HSS := Lib.hid hS
  have HSL := Lib.hid hSl
  have HSB := Lib.hid hSb
  have HY := Lib.hid hY
  have HWR := Lib.hid hwr
  obtain ⟨g1, hg1⟩ : ∃ g, w.heap.size = g := ⟨_, rfl⟩
  obtain ⟨g2, hg2⟩ : ∃ g, w.heap.size + 1 = g := ⟨_, rfl⟩
  obtain ⟨g3, hg3⟩ : ∃ g, w.heap.size + 1 + 1 = g := ⟨_, rfl⟩
  obtain ⟨wz, hwz⟩ : ∃ wq, ((w.alloc (.cells #[.slice A x.length c, .slice A2 y.length c2] 44)).alloc (.cells #[.int .i64 i, .int .i64 p, .int .i64 q] 46)).alloc (.cells #[.slice none 0 0, .slice none 0 0] 44) = wq := ⟨_, rfl⟩
  have bb : Below w.heap.size w wz := by rw [← hwz]; exact (((Below.refl _ _).alloc (Nat.le_refl _) _).alloc (by simp) _).alloc (by simp; omega) _
  have k1 : Blk wz g1 44 #[.slice A x.length c, .slice A2 y.length c2] := by rw [← hwz, ← hg1]; exact ((Blk.new _ _ _).alloc _).alloc _
  have k2 : Blk wz g2 46 #[.int .i64 i, .int .i64 p, .int .i64 q] := by
    rw [← hwz, ← hg2]
    have := Blk.new (w.alloc (.cells #[.slice A x.length c, .slice A2 y.length c2] 44)) 46 #[.int .i64 i, .int .i64 p, .int .i64 q]
    rw [World.size_alloc] at this
    exact this.alloc _
  have k3 : Blk wz g3 44 #[.slice none 0 0, .slice none 0 0] := by
    rw [← hwz, ← hg3]
    have := Blk.new ((w.alloc (.cells #[.slice A x.length c, .slice A2 y.length c2] 44)).alloc (.cells #[.int .i64 i, .int .i64 p, .int .i64 q] 46)) 44 #[.slice none 0 0, .slice none 0 0]
    rw [World.size_alloc, World.size_alloc] at this
    exact this
  have hgl : w.heap.size ≤ g3 := by omega
  have h2 := h.below bb
  have CA : Hid (∀ wx, Below wz.heap.size wz wx → Calls Try.prog 61 #[.slice A x.length c] wx (GotN wz wx RA)) := Lib.hid fun wx hx => refparse hRA h2.fa.1 h2.fa.2 h2.ca (h2.a.below hx) hx
  have CB : Hid (∀ wx, Below wz.heap.size wz wx → Calls Try.prog 61 #[.slice A2 y.length c2] wx (GotN wz wx RB)) := Lib.hid fun wx hx => refparse hRB h2.fb.1 h2.fb.2 h2.cb (h2.b.below hx) hx
  have HRZ := Lib.hid h2
  have HGL := Lib.hid hgl
  have HBB := Lib.hid bb
  have HWZ := Lib.hid hwz
  have HG1 := Lib.hid hg1
  have HG2 := Lib.hid hg2
  have HG3 := Lib.hid hg3
  have HK1 := Lib.hid k1
  have HK2 := Lib.hid k2
  have HK3 := Lib.hid k3
  have y0 : wz.cell? ⟨g1, 0, none⟩ = some (.slice A x.length c) := k1.cell 0
  obtain ⟨P1, hP1⟩ : ∃ p1, (Dk.write x y i p q cut).1 = p1 := ⟨_, rfl⟩
  obtain ⟨P2, hP2⟩ : ∃ p2, (Dk.write x y i p q cut).2 = p2 := ⟨_, rfl⟩
  have HP : Hid ((if Dk.keeps x y then (x, Y) else (Y, y)) = (P1, P2)) := Lib.hid (by rw [← hwr, ← hP1, ← hP2])
  rw [hP1, hP2]
  clear hP1 hP2
  clear h h2 bb k1 k2 k3 hgl hwz hg1 hg2 hg3 hRA hRB hNA hNB hra hrb hokA hokB hnx hNX hS hSl hSb hY hwr
  go_enter Try.func32, Try.ntmps32
  go_upto_region 1 with fail
  rw [HG3.out, HG2.out, HG1.out, HWZ.out]
  clear HWZ HG1 HG2 HG3
  go_upto_region 2 with (first
    | (go_at_call 61; refine (CA.out _ (Below.refl _ _)).mono ?_; rintro en w1 ⟨he, hB, hb⟩
       have he2 : en = .returned (.tuple #[.int .i64 NA, .agg #[.int .i64 ra0, .int .i64 ra1, .int .i64 ra2]]) := by rw [he, HNA.out, HRA.out]
       clear he
       subst he2
       have HB1 := Lib.hid hB
       clear hB hb)
    | (refine wpList_store_row rfl 46 (.tmp 8) (.tmp 19) rfl w1.heap.size #[.int .i64 ra0, .int .i64 ra1, .int .i64 ra2] rfl rfl 46 #[.int .i64 0, .int .i64 0, .int .i64 0] (Blk.new w1 46 #[.int .i64 0, .int .i64 0, .int .i64 0]) (by kernel_rfl) rfl (by kernel_rfl) ?_)
    | fail)
  obtain ⟨ga, w2, hgE, hwE, hbE, hkE⟩ := boxed w1 #[.int .i64 0, .int .i64 0, .int .i64 0] #[.int .i64 ra0, .int .i64 ra1, .int .i64 ra2] 46
  rw [hgE, hwE]
  have HBc := Lib.hid hbE
  have HKA := Lib.hid hkE
  clear hgE hwE hbE hkE
  have HB2 := Lib.hid (HB1.out.trans (HBc.out.mono HB1.out.size))
  have y1 : w2.cell? ⟨g1, 1, none⟩ = some (.slice A2 y.length c2) := (HK1.out.below HB2.out).cell 1
  clear HB1 HBc y0
  go_upto_region 3 with (first
    | (go_at_call 61; refine (CB.out _ HB2.out).mono ?_; rintro en w3 ⟨he, hB, hb⟩
       have he2 : en = .returned (.tuple #[.int .i64 NB, .agg #[.int .i64 rb0, .int .i64 rb1, .int .i64 rb2]]) := by rw [he, HNB.out, HRB.out]
       clear he
       subst he2
       have HB3 := Lib.hid hB
       have HKA := Lib.hid (HKA.out.below hb)
       clear hB hb)
    | (refine wpList_store_row rfl 46 (.tmp 10) (.tmp 25) rfl w3.heap.size #[.int .i64 rb0, .int .i64 rb1, .int .i64 rb2] rfl rfl 46 #[.int .i64 0, .int .i64 0, .int .i64 0] (Blk.new w3 46 #[.int .i64 0, .int .i64 0, .int .i64 0]) (by kernel_rfl) rfl (by kernel_rfl) ?_)
    | fail)
  obtain ⟨gb, w4, hgE, hwE, hbE, hkE⟩ := boxed w3 #[.int .i64 0, .int .i64 0, .int .i64 0] #[.int .i64 rb0, .int .i64 rb1, .int .i64 rb2] 46
  rw [hgE, hwE]
  have HBc := Lib.hid hbE
  have HKB := Lib.hid hkE
  clear hgE hwE hbE hkE
  have HB4 := Lib.hid (HB3.out.trans (HBc.out.mono HB3.out.size))
  have HKA := Lib.hid (HKA.out.below HBc.out)
  clear HB3 HBc y1
  have HK1 := Lib.hid (HK1.out.below HB4.out)
  have HK2 := Lib.hid (HK2.out.below HB4.out)
  have HG3 : Hid (g3 < wz.heap.size) := Lib.hid HK3.out.lt
  have HK3 := Lib.hid (HK3.out.below HB4.out)
  have HRZ := Lib.hid (HRZ.out.below HB4.out)
  have HGZ : Hid (wz.heap.size ≤ w4.heap.size) := Lib.hid HB4.out.size
  clear CA CB
  have hc3 : (NA < 0 ∧ NB < 0) ∨ (0 ≤ NA ∧ NB ≤ NA) ∨ NA < NB := by omega
  rcases hc3 with ⟨h1, h2⟩ | ⟨h1, h2⟩ | h1
  · have hx := HNX.out.1 h1 h2
    have HE : Hid ((1 : Int) = NX) := Lib.hid hx.1.symm
    have HKP := Lib.hid hx.2
    have hq : ¬ 0 ≤ NA := by omega
    have hq2 : ¬ 0 ≤ NB := by omega
    have hq3 : NB ≤ NA := by omega
    clear hx
    go_upto_region 6 with fail
    rw [HE.out]
    go_upto_region 7 with (first
      | (refine wpList_load_row rfl  46 (.tmp 4) rfl g2 rfl 46 #[.int .i64 i, .int .i64 p, .int .i64 q] (0, 0) _ HK2.out Try.underlying46 rfl (by kernel_rfl) ?_)
      | (go_at_call 31; refine (refslot (W := w4) HSS.out (Below.refl _ _)).mono ?_; rintro en w7 ⟨A4, c4, rfl, ho, hB, hb⟩
         have HO4 := Lib.hid ho
         have HB7 := Lib.hid hB
         clear ho hB hb)
      | fail)
    have hcap := own_cap HO4.out
    obtain ⟨D, hD⟩ : ∃ d, decide (0 ≤ cut ∧ cut < (S.length : Int)) = d := ⟨_, rfl⟩
    go_cut [46] from 39 to 45 (fun s46 wx => s46 = .bool D ∧ wx = w7)
    case first =>
      by_cases q1 : 0 ≤ cut
      · by_cases q2 : cut < (S.length : Int)
        · have hD2 : D = true := by rw [← hD]; exact decide_eq_true ⟨q1, q2⟩
          subst hD2
          clear hD
          go_wp2_with fail
          go_meet
          exact ⟨rfl, rfl⟩
        · have hD2 : D = false := by rw [← hD]; exact decide_eq_false (fun h => q2 h.2)
          subst hD2
          clear hD
          go_wp2_with fail
          go_meet
          exact ⟨rfl, rfl⟩
      · have hD2 : D = false := by rw [← hD]; exact decide_eq_false (fun h => q1 h.1)
        subst hD2
        clear hD
        go_wp2_with fail
        go_meet
        exact ⟨rfl, rfl⟩
    case rest =>
      obtain ⟨rfl, rfl⟩ := hcut
      rename World => w7
      have hN4 : ∃ N4 : Nat, N4 = (if D = true then cut.toNat else S.length) ∧ N4 ≤ S.length ∧ Y = S.take N4 ∧ (D = true → cut = (N4 : Int)) := by
        have hy := HY.out
        unfold Dk.head at hy
        cases D with
        | true =>
          have h3 := of_decide_eq_true hD
          rw [if_neg (by omega)] at hy
          exact ⟨cut.toNat, rfl, by omega, hy.symm, fun _ => by omega⟩
        | false =>
          have h3 := of_decide_eq_false hD
          refine ⟨S.length, rfl, Nat.le_refl _, ?_, fun h => by cases h⟩
          rw [List.take_length]
          split at hy
          · exact hy.symm
          · rw [← hy, List.take_of_length_le (by omega)]
      obtain ⟨N4, hN1, hN2, hN3, hN5⟩ := hN4
      have HN3 := Lib.hid hN3
      have hk4 : N4 ≤ c4 := by omega
      have HFY : Hid (Dk.Fine Y) := Lib.hid (by
        rw [hN3]
        exact ⟨fun z hz => HSB.out z (List.mem_of_mem_take hz), by rw [List.length_take]; have := HSL.out; omega⟩)
      have HC4 := Lib.hid hcap
      have HN2 := Lib.hid hN2
      have HK1 : Hid (∀ wx, Below w7.heap.size w7 wx → Blk wx g1 44 #[.slice A x.length c, .slice A2 y.length c2]) := Lib.hid fun wx hx => (HK1.out.below HB7.out).below hx
      have HK3 := Lib.hid (HK3.out.below HB7.out)
      have HRD := Lib.hid (HRZ.out.below HB7.out)
      obtain ⟨i9, hi1, hi2, hi3, hi4⟩ := info_parts byteT.info
      have hs1 := run_slice_to (P := Try.prog) (t := 22) byteT.under hi1 A4 S.length c4 N4 hk4
      clear hi1 hi2 hi3 hi4 hcap hN2 hN3 hk4 HKA HKB HK2
      cases D
      all_goals
        first | (have hcut := hN5 rfl; subst hcut; clear hN1) | rw [if_neg (by decide)] at hN1
        clear hN5 hD
        go_upto_region 9 with fail
        clear hs1
        obtain ⟨w9, hw9⟩ : ∃ x, w7 = x := ⟨_, rfl⟩
        rw [hw9] at HK1 HK3 HRD HO4 HB7 ⊢
        clear hw9
        try rw [← hN1]
        try clear hN1
        go_cut [13] from 50 to 58 (fun s13 wx => ∃ (g5 : Nat) (A5 : Option Addr) (c5 : Nat) (A6 : Option Addr) (c6 : Nat), s13 = .pointer (some ⟨g5, 0, none⟩) ∧ Hid (w9.heap.size ≤ g5) ∧ Hid (Blk wx g5 44 #[.slice A5 x.length c5, .slice A6 y.length c6]) ∧ Hid (OwnB w9 wx A5 x.length c5 x) ∧ Hid (OwnB w9 wx A6 y.length c6 y) ∧ Hid (Below w9.heap.size w9 wx))
        case first =>
          refine region_invL (L := 10) (U0 := fun _ => undef) (frameW9 w9 g1 A A2 c c2 x y _ _ _ _ _ _ _ _ _ _ _ _ _ _ _ _ _ _ _ _ _ _ _ _ _ _ _ _ _ _ _ _ _ _ _ _ _ _ _ _ _ _ _ _ _ _ _ _ _ _ _ _ _ _ _ _ _ _ _ _) dstW9 depsW9 (fun _ => true) (VE (kindsW9 w9 g1 A A2 c c2 x y)) (FrW9 w9 g1 A A2 c c2 x y) rfl ?hm ?hb ?inj ?dst ?deps ?all ?want ?put ?ev ?fr (VE.ext _) (Below.refl _ _) ?hok ?last
          case hok =>
            refine all_opsLD (AllFrom.cons ?s0 (AllFrom.cons ?s1 (AllFrom.cons ?s2 (AllFrom.cons ?s3 (AllFrom.cons ?s4 (AllFrom.cons ?s5 (AllFrom.cons ?s6 (AllFrom.cons ?s7 (AllFrom.cons ?s8 (AllFrom.cons ?s9 AllFrom.nil))))))))))
            case s0 =>
              intro ac w1 hF hB hdep K hK
              rw [if_pos rfl]
              go_simp
              exact hK.out _ _ ((Below.refl _ _).alloc (Nat.le_refl _) _) (hB.alloc hB.size _) ⟨w1.heap.size, rfl, own_empty hB _⟩
            case s1 =>
              intro ac w1 hF hB hdep K hK
              rw [if_pos rfl]
              have f3 : ac.tmps[3]?.getD undef = .pointer (some ⟨g1, 0, none⟩) := ev_tmpD hF
              have hk := HK1.out _ hB
              have c0 : w1.cell? ⟨g1, 0, none⟩ = some (.slice A x.length c) := hk.cell 0
              go_simp
              exact hK.out _ _ (Below.refl _ _) hB rfl
            case s2 =>
              intro ac w1 hF hB hdep K hK
              rw [if_pos rfl]
              have e1 : ac.tmps[51]?.getD undef = .pointer (some ⟨g1, 0, none⟩) := ev_tmpD (show ac.eval (.tmp 51) = .pointer (some ⟨g1, 0, none⟩) from hdep 1 (by decide))
              have c0 : w1.cell? ⟨g1, 0, none⟩ = some (.slice A x.length c) := (HK1.out _ hB).cell 0
              go_simp
              exact hK.out _ _ (Below.refl _ _) hB rfl
            case s3 =>
              intro ac w1 hF hB hdep K hK
              rw [if_pos rfl]
              obtain ⟨g5, e5, ho5⟩ : ∃ g, ac.eval (.tmp 50) = .slice (some ⟨g, 0, none⟩) 0 0 ∧ OwnB w9 w1 (some ⟨g, 0, none⟩) 0 0 [] := hdep 0 (by decide)
              have e6 : ac.eval (.tmp 52) = .slice A x.length c := hdep 2 (by decide)
              refine wp_append_empty (W := w9) byteT (.tmp 50) (.tmp 52) rfl e5 ho5 e6 (HRD.out.a.below hB) (by have := HRD.out.fa.2; omega) hB.size ?_
              intro A9 c9 wq ho9 hb9
              exact hK.out _ _ hb9 (hB.trans (hb9.mono hB.size)) ⟨A9, c9, rfl, ho9⟩
            case s4 =>
              intro ac w1 hF hB hdep K hK
              rw [if_pos rfl]
              go_simp
              exact hK.out _ _ ((Below.refl _ _).alloc (Nat.le_refl _) _) (hB.alloc hB.size _) ⟨w1.heap.size, rfl, own_empty hB _⟩
            case s5 =>
              intro ac w1 hF hB hdep K hK
              rw [if_pos rfl]
              have f3 : ac.tmps[3]?.getD undef = .pointer (some ⟨g1, 0, none⟩) := ev_tmpD hF
              have hk := HK1.out _ hB
              have c0 : w1.cell? ⟨g1, 1, none⟩ = some (.slice A2 y.length c2) := hk.cell 1
              go_simp
              exact hK.out _ _ (Below.refl _ _) hB rfl
            case s6 =>
              intro ac w1 hF hB hdep K hK
              rw [if_pos rfl]
              have e5 : ac.tmps[55]?.getD undef = .pointer (some ⟨g1, 1, none⟩) := ev_tmpD (show ac.eval (.tmp 55) = .pointer (some ⟨g1, 1, none⟩) from hdep 5 (by decide))
              have c0 : w1.cell? ⟨g1, 1, none⟩ = some (.slice A2 y.length c2) := (HK1.out _ hB).cell 1
              go_simp
              exact hK.out _ _ (Below.refl _ _) hB rfl
            case s7 =>
              intro ac w1 hF hB hdep K hK
              rw [if_pos rfl]
              obtain ⟨g5, e5, ho5⟩ : ∃ g, ac.eval (.tmp 54) = .slice (some ⟨g, 0, none⟩) 0 0 ∧ OwnB w9 w1 (some ⟨g, 0, none⟩) 0 0 [] := hdep 4 (by decide)
              have e6 : ac.eval (.tmp 56) = .slice A2 y.length c2 := hdep 6 (by decide)
              refine wp_append_empty (W := w9) byteT (.tmp 54) (.tmp 56) rfl e5 ho5 e6 (HRD.out.b.below hB) (by have := HRD.out.fb.2; omega) hB.size ?_
              intro A9 c9 wq ho9 hb9
              exact hK.out _ _ hb9 (hB.trans (hb9.mono hB.size)) ⟨A9, c9, rfl, ho9⟩
            case s8 =>
              intro ac w1 hF hB hdep K hK
              rw [if_pos rfl]
              obtain ⟨A5, c5, e5, ho5⟩ : ∃ A5 c5, ac.eval (.tmp 53) = .slice A5 x.length c5 ∧ OwnB w9 w1 A5 x.length c5 x := hdep 3 (by decide)
              obtain ⟨A6, c6, e6, ho6⟩ : ∃ A5 c5, ac.eval (.tmp 57) = .slice A5 y.length c5 ∧ OwnB w9 w1 A5 y.length c5 y := hdep 7 (by decide)
              have e5 := ev_tmpD e5
              have e6 := ev_tmpD e6
              go_simp
              exact hK.out _ _ (Below.refl _ _) hB ⟨A5, c5, A6, c6, rfl, ho5, ho6⟩
            case s9 =>
              intro ac w1 hF hB hdep K hK
              rw [if_pos rfl]
              go_simp
              exact hK.out _ _ ((Below.refl _ _).alloc (Nat.le_refl _) _) (hB.alloc hB.size _) ⟨w1.heap.size, rfl, hB.size, Blk.new _ _ _⟩
          case hm => kernel_rfl
          case hb => kernel_rfl
          case inj =>
            intro i j hi hj h
            have h1 : ((List.range 10).all fun i => (List.range 10).all fun j => !(dstW9 i == dstW9 j) || (i == j)) = true := by kernel_rfl
            have h2 := List.all_eq_true.1 (List.all_eq_true.1 h1 i (List.mem_range.2 hi)) j (List.mem_range.2 hj)
            simpa [h] using h2
          case dst => exact all_opsLD (AllFrom.cons rfl (AllFrom.cons rfl (AllFrom.cons rfl (AllFrom.cons rfl (AllFrom.cons rfl (AllFrom.cons rfl (AllFrom.cons rfl (AllFrom.cons rfl (AllFrom.cons rfl (AllFrom.cons rfl AllFrom.nil))))))))))
          case deps =>
            refine deps_ofLD (deps := depsW9) ?_
            kernel_rfl
          case all =>
            refine alls_ofLD ?_
            kernel_rfl
          case want => exact all_opsLD (AllFrom.cons (fun U w hd => rfl) (AllFrom.cons (fun U w hd => rfl) (AllFrom.cons (fun U w hd => rfl) (AllFrom.cons (fun U w hd => rfl) (AllFrom.cons (fun U w hd => rfl) (AllFrom.cons (fun U w hd => rfl) (AllFrom.cons (fun U w hd => rfl) (AllFrom.cons (fun U w hd => rfl) (AllFrom.cons (fun U w hd => rfl) (AllFrom.cons (fun U w hd => rfl) AllFrom.nil))))))))))
          case put => exact all_opsLD (AllFrom.cons (fun _ _ => by kernel_rfl) (AllFrom.cons (fun _ _ => by kernel_rfl) (AllFrom.cons (fun _ _ => by kernel_rfl) (AllFrom.cons (fun _ _ => by kernel_rfl) (AllFrom.cons (fun _ _ => by kernel_rfl) (AllFrom.cons (fun _ _ => by kernel_rfl) (AllFrom.cons (fun _ _ => by kernel_rfl) (AllFrom.cons (fun _ _ => by kernel_rfl) (AllFrom.cons (fun _ _ => by kernel_rfl) (AllFrom.cons (fun _ _ => by kernel_rfl) AllFrom.nil))))))))))
          case ev => exact all_opsLD (AllFrom.cons (fun _ => by kernel_rfl) (AllFrom.cons (fun _ => by kernel_rfl) (AllFrom.cons (fun _ => by kernel_rfl) (AllFrom.cons (fun _ => by kernel_rfl) (AllFrom.cons (fun _ => by kernel_rfl) (AllFrom.cons (fun _ => by kernel_rfl) (AllFrom.cons (fun _ => by kernel_rfl) (AllFrom.cons (fun _ => by kernel_rfl) (AllFrom.cons (fun _ => by kernel_rfl) (AllFrom.cons (fun _ => by kernel_rfl) AllFrom.nil))))))))))
          case fr => exact fun U => (by unfold FrW9; kernel_rfl)
          case last =>
            intro o ho U w' hB hV K hK
            obtain rfl := Option.some.inj (show some _ = some o from ho)
            rw [if_pos (by rfl)]
            obtain ⟨A5, c5, A6, c6, e58, ho5, ho6⟩ : ∃ A5 c5 A6 c6, U 58 = .agg #[.slice A5 x.length c5, .slice A6 y.length c6] ∧ OwnB w9 w' A5 x.length c5 x ∧ OwnB w9 w' A6 y.length c6 y := hV 8 (by decide)
            obtain ⟨g5, e13, hg5, hk5⟩ : ∃ g, U 13 = .pointer (some ⟨g, 0, none⟩) ∧ w9.heap.size ≤ g ∧ Blk w' g 44 #[.slice none 0 0, .slice none 0 0] := hV 9 (by decide)
            refine wp_store_row 44 (.tmp 13) (.tmp 58) rfl g5 #[.slice A5 x.length c5, .slice A6 y.length c6] ((show _ = U 13 from by kernel_rfl).trans e13) ((show _ = U 58 from by kernel_rfl).trans e58) 44 #[.slice none 0 0, .slice none 0 0] hk5 (by kernel_rfl) rfl (by kernel_rfl) ?_
            refine hK.out _ _ ?_
            have HG9 := Lib.hid hg5
            have HK9 := Lib.hid (hk5.row #[.slice A5 x.length c5, .slice A6 y.length c6])
            have HO5 := Lib.hid (own_row_t (cs := #[.slice A5 x.length c5, .slice A6 y.length c6]) ho5 hk5 (by decide))
            have HO6 := Lib.hid (own_row_t (cs := #[.slice A5 x.length c5, .slice A6 y.length c6]) ho6 hk5 (by decide))
            have HB9 := Lib.hid (below_setRow hB hg5 #[.slice A5 x.length c5, .slice A6 y.length c6])
            clear hV hB ho5 ho6 hk5 hg5
            generalize w'.setRow g5 #[.slice A5 x.length c5, .slice A6 y.length c6] = wk at HK9 HO5 HO6 HB9 ⊢
            unfold frameW9
            rw [e13]
            clear e13 e58
            go_simp
            go_wp2_with fail
            go_meet
            exact ⟨g5, A5, c5, A6, c6, rfl, HG9, HK9, HO5, HO6, HB9⟩
        case rest =>
          obtain ⟨g5, A5, c5, A6, c6, rfl, HG5, HK5, HO5, HO6, HB9⟩ := hcut
          rename World => wb
          have HO4 := Lib.hid (own_below HO4.out HB9.out)
          have HK3 := Lib.hid (HK3.out.below HB9.out)
          have hne : g5 ≠ g3 := by have h1 := HG5.out; have h2 := HK3.out.lt; have h3 := HG3.out; have h4 := HGZ.out; have h5 := HB7.out.size; omega
          have y5 : wb.cell? ⟨g5, 0, none⟩ = some (.slice A5 x.length c5) := HK5.out.cell 0
          have y6 : wb.cell? ⟨g5, 1, none⟩ = some (.slice A6 y.length c6) := HK5.out.cell 1
          have f5 := HK5.out.frozen 0
          have f6 := HK5.out.frozen 1
          go_upto_region 13 with fail
          have hk6 : Blk (wb.setCell ⟨g5, 0, none⟩ (.slice A4 N4 c4)) g5 44 #[.slice A4 N4 c4, .slice A6 y.length c6] := HK5.out.set_ 0 _
          have ho4 := own_set_t (i := 0) (u := .slice A4 N4 c4) HO4.out HK5.out (by decide)
          have ho5 := own_set_t (i := 0) (u := .slice A4 N4 c4) HO6.out HK5.out (by decide)
          have hk3 := HK3.out.set_other (i := 0) (u := .slice A4 N4 c4) hne.symm
          have hbx := HB9.out.setCell (p := ⟨g5, 0, none⟩) HG5.out (.slice A4 N4 c4)
          clear y5 y6 f5 f6
          generalize wb.setCell ⟨g5, 0, none⟩ (.slice A4 N4 c4) = wd at hk6 ho4 ho5 hk3 hbx ⊢
          have HK6 := Lib.hid hk6
          have HK3 := Lib.hid hk3
          have HO4 := Lib.hid (own_row_t (cs := #[.slice A4 N4 c4, .slice A6 y.length c6]) ho4 hk3 (by decide))
          have HO5 := Lib.hid (own_row_t (cs := #[.slice A4 N4 c4, .slice A6 y.length c6]) ho5 hk3 (by decide))
          have HBX := Lib.hid (below_setRow ((HBB.out.trans (HB4.out.mono HBB.out.size)).trans ((HB7.out.trans (hbx.mono HB7.out.size)).mono (Nat.le_trans HBB.out.size HB4.out.size))) HGL.out #[.slice A4 N4 c4, .slice A6 y.length c6])
          clear hk6 ho4 ho5 hk3 hbx
          go_wp2_with (first
            | (refine wpList_load_row rfl  44 (.tmp 13) rfl g5 rfl 44 #[.slice A4 N4 c4, .slice A6 y.length c6] (0, 0) _ HK6.out Try.underlying44 rfl (by kernel_rfl) ?_)
            | (refine wpList_store_row rfl 44 (.tmp 6) (.tmp 70) rfl g3 #[.slice A4 N4 c4, .slice A6 y.length c6] rfl rfl 44 #[.slice none 0 0, .slice none 0 0] HK3.out (by kernel_rfl) rfl (by kernel_rfl) ?_)
            | fail)
          refine bodyPost_ret (results_cell_row rfl _ _ _ _ _ _ _ rfl (HK3.out.row #[.slice A4 N4 c4, .slice A6 y.length c6]) Try.underlying44 rfl (by kernel_rfl)) rfl ?_
          have hP : (Y, y) = (P1, P2) := by have := HP.out; rw [HKP.out] at this; exact this
          injection hP with e1 e2
          rw [← e1, ← e2]
          have hry : Rd (wd.setRow g3 #[.slice A4 N4 c4, .slice A6 y.length c6]) (wd.setRow g3 #[.slice A4 N4 c4, .slice A6 y.length c6]).heap.size A4 N4 (bv Y) := by rw [HN3.out, bv_take]; exact (Rd.own_ HO4.out).take HN2.out
          have hc4 := HC4.out
          have hn2 := HN2.out
          exact ⟨_, _, _, _, _, _, rfl, ⟨hry, Rd.own_ HO5.out, ⟨by omega, hc4.2⟩, own_cap HO5.out, HFY.out, HRZ.out.fb⟩, HBX.out, HBX.out⟩
  · have hx := HNX.out.2.1 h1 h2
    have HE : Hid (NA + 1 = NX) := Lib.hid hx.1.symm
    have HKP := Lib.hid hx.2
    have hmax : max NA NB = NA := by omega
    clear hx
    go_upto_region 6 with fail
    rw [HE.out]
    go_upto_region 7 with (first
      | (refine wpList_load_row rfl  46 (.tmp 4) rfl g2 rfl 46 #[.int .i64 i, .int .i64 p, .int .i64 q] (0, 0) _ HK2.out Try.underlying46 rfl (by kernel_rfl) ?_)
      | (go_at_call 31; refine (refslot (W := w4) HSS.out (Below.refl _ _)).mono ?_; rintro en w7 ⟨A4, c4, rfl, ho, hB, hb⟩
         have HO4 := Lib.hid ho
         have HB7 := Lib.hid hB
         clear ho hB hb)
      | fail)
    have hcap := own_cap HO4.out
    obtain ⟨D, hD⟩ : ∃ d, decide (0 ≤ cut ∧ cut < (S.length : Int)) = d := ⟨_, rfl⟩
    go_cut [46] from 39 to 45 (fun s46 wx => s46 = .bool D ∧ wx = w7)
    case first =>
      by_cases q1 : 0 ≤ cut
      · by_cases q2 : cut < (S.length : Int)
        · have hD2 : D = true := by rw [← hD]; exact decide_eq_true ⟨q1, q2⟩
          subst hD2
          clear hD
          go_wp2_with fail
          go_meet
          exact ⟨rfl, rfl⟩
        · have hD2 : D = false := by rw [← hD]; exact decide_eq_false (fun h => q2 h.2)
          subst hD2
          clear hD
          go_wp2_with fail
          go_meet
          exact ⟨rfl, rfl⟩
      · have hD2 : D = false := by rw [← hD]; exact decide_eq_false (fun h => q1 h.1)
        subst hD2
        clear hD
        go_wp2_with fail
        go_meet
        exact ⟨rfl, rfl⟩
    case rest =>
      obtain ⟨rfl, rfl⟩ := hcut
      rename World => w7
      have hN4 : ∃ N4 : Nat, N4 = (if D = true then cut.toNat else S.length) ∧ N4 ≤ S.length ∧ Y = S.take N4 ∧ (D = true → cut = (N4 : Int)) := by
        have hy := HY.out
        unfold Dk.head at hy
        cases D with
        | true =>
          have h3 := of_decide_eq_true hD
          rw [if_neg (by omega)] at hy
          exact ⟨cut.toNat, rfl, by omega, hy.symm, fun _ => by omega⟩
        | false =>
          have h3 := of_decide_eq_false hD
          refine ⟨S.length, rfl, Nat.le_refl _, ?_, fun h => by cases h⟩
          rw [List.take_length]
          split at hy
          · exact hy.symm
          · rw [← hy, List.take_of_length_le (by omega)]
      obtain ⟨N4, hN1, hN2, hN3, hN5⟩ := hN4
      have HN3 := Lib.hid hN3
      have hk4 : N4 ≤ c4 := by omega
      have HFY : Hid (Dk.Fine Y) := Lib.hid (by
        rw [hN3]
        exact ⟨fun z hz => HSB.out z (List.mem_of_mem_take hz), by rw [List.length_take]; have := HSL.out; omega⟩)
      have HC4 := Lib.hid hcap
      have HN2 := Lib.hid hN2
      have HK1 : Hid (∀ wx, Below w7.heap.size w7 wx → Blk wx g1 44 #[.slice A x.length c, .slice A2 y.length c2]) := Lib.hid fun wx hx => (HK1.out.below HB7.out).below hx
      have HK3 := Lib.hid (HK3.out.below HB7.out)
      have HRD := Lib.hid (HRZ.out.below HB7.out)
      obtain ⟨i9, hi1, hi2, hi3, hi4⟩ := info_parts byteT.info
      have hs1 := run_slice_to (P := Try.prog) (t := 22) byteT.under hi1 A4 S.length c4 N4 hk4
      clear hi1 hi2 hi3 hi4 hcap hN2 hN3 hk4 HKA HKB HK2
      cases D
      all_goals
        first | (have hcut := hN5 rfl; subst hcut; clear hN1) | rw [if_neg (by decide)] at hN1
        clear hN5 hD
        go_upto_region 9 with fail
        clear hs1
        obtain ⟨w9, hw9⟩ : ∃ x, w7 = x := ⟨_, rfl⟩
        rw [hw9] at HK1 HK3 HRD HO4 HB7 ⊢
        clear hw9
        try rw [← hN1]
        try clear hN1
        go_cut [13] from 50 to 58 (fun s13 wx => ∃ (g5 : Nat) (A5 : Option Addr) (c5 : Nat) (A6 : Option Addr) (c6 : Nat), s13 = .pointer (some ⟨g5, 0, none⟩) ∧ Hid (w9.heap.size ≤ g5) ∧ Hid (Blk wx g5 44 #[.slice A5 x.length c5, .slice A6 y.length c6]) ∧ Hid (OwnB w9 wx A5 x.length c5 x) ∧ Hid (OwnB w9 wx A6 y.length c6 y) ∧ Hid (Below w9.heap.size w9 wx))
        case first =>
          refine region_invL (L := 10) (U0 := fun _ => undef) (frameW9 w9 g1 A A2 c c2 x y _ _ _ _ _ _ _ _ _ _ _ _ _ _ _ _ _ _ _ _ _ _ _ _ _ _ _ _ _ _ _ _ _ _ _ _ _ _ _ _ _ _ _ _ _ _ _ _ _ _ _ _ _ _ _ _ _ _ _ _) dstW9 depsW9 (fun _ => true) (VE (kindsW9 w9 g1 A A2 c c2 x y)) (FrW9 w9 g1 A A2 c c2 x y) rfl ?hm ?hb ?inj ?dst ?deps ?all ?want ?put ?ev ?fr (VE.ext _) (Below.refl _ _) ?hok ?last
          case hok =>
            refine all_opsLD (AllFrom.cons ?s0 (AllFrom.cons ?s1 (AllFrom.cons ?s2 (AllFrom.cons ?s3 (AllFrom.cons ?s4 (AllFrom.cons ?s5 (AllFrom.cons ?s6 (AllFrom.cons ?s7 (AllFrom.cons ?s8 (AllFrom.cons ?s9 AllFrom.nil))))))))))
            case s0 =>
              intro ac w1 hF hB hdep K hK
              rw [if_pos rfl]
              go_simp
              exact hK.out _ _ ((Below.refl _ _).alloc (Nat.le_refl _) _) (hB.alloc hB.size _) ⟨w1.heap.size, rfl, own_empty hB _⟩
            case s1 =>
              intro ac w1 hF hB hdep K hK
              rw [if_pos rfl]
              have f3 : ac.tmps[3]?.getD undef = .pointer (some ⟨g1, 0, none⟩) := ev_tmpD hF
              have hk := HK1.out _ hB
              have c0 : w1.cell? ⟨g1, 0, none⟩ = some (.slice A x.length c) := hk.cell 0
              go_simp
              exact hK.out _ _ (Below.refl _ _) hB rfl
            case s2 =>
              intro ac w1 hF hB hdep K hK
              rw [if_pos rfl]
              have e1 : ac.tmps[51]?.getD undef = .pointer (some ⟨g1, 0, none⟩) := ev_tmpD (show ac.eval (.tmp 51) = .pointer (some ⟨g1, 0, none⟩) from hdep 1 (by decide))
              have c0 : w1.cell? ⟨g1, 0, none⟩ = some (.slice A x.length c) := (HK1.out _ hB).cell 0
              go_simp
              exact hK.out _ _ (Below.refl _ _) hB rfl
            case s3 =>
              intro ac w1 hF hB hdep K hK
              rw [if_pos rfl]
              obtain ⟨g5, e5, ho5⟩ : ∃ g, ac.eval (.tmp 50) = .slice (some ⟨g, 0, none⟩) 0 0 ∧ OwnB w9 w1 (some ⟨g, 0, none⟩) 0 0 [] := hdep 0 (by decide)
              have e6 : ac.eval (.tmp 52) = .slice A x.length c := hdep 2 (by decide)
              refine wp_append_empty (W := w9) byteT (.tmp 50) (.tmp 52) rfl e5 ho5 e6 (HRD.out.a.below hB) (by have := HRD.out.fa.2; omega) hB.size ?_
              intro A9 c9 wq ho9 hb9
              exact hK.out _ _ hb9 (hB.trans (hb9.mono hB.size)) ⟨A9, c9, rfl, ho9⟩
            case s4 =>
              intro ac w1 hF hB hdep K hK
              rw [if_pos rfl]
              go_simp
              exact hK.out _ _ ((Below.refl _ _).alloc (Nat.le_refl _) _) (hB.alloc hB.size _) ⟨w1.heap.size, rfl, own_empty hB _⟩
            case s5 =>
              intro ac w1 hF hB hdep K hK
              rw [if_pos rfl]
              have f3 : ac.tmps[3]?.getD undef = .pointer (some ⟨g1, 0, none⟩) := ev_tmpD hF
              have hk := HK1.out _ hB
              have c0 : w1.cell? ⟨g1, 1, none⟩ = some (.slice A2 y.length c2) := hk.cell 1
              go_simp
              exact hK.out _ _ (Below.refl _ _) hB rfl
            case s6 =>
              intro ac w1 hF hB hdep K hK
              rw [if_pos rfl]
              have e5 : ac.tmps[55]?.getD undef = .pointer (some ⟨g1, 1, none⟩) := ev_tmpD (show ac.eval (.tmp 55) = .pointer (some ⟨g1, 1, none⟩) from hdep 5 (by decide))
              have c0 : w1.cell? ⟨g1, 1, none⟩ = some (.slice A2 y.length c2) := (HK1.out _ hB).cell 1
              go_simp
              exact hK.out _ _ (Below.refl _ _) hB rfl
            case s7 =>
              intro ac w1 hF hB hdep K hK
              rw [if_pos rfl]
              obtain ⟨g5, e5, ho5⟩ : ∃ g, ac.eval (.tmp 54) = .slice (some ⟨g, 0, none⟩) 0 0 ∧ OwnB w9 w1 (some ⟨g, 0, none⟩) 0 0 [] := hdep 4 (by decide)
              have e6 : ac.eval (.tmp 56) = .slice A2 y.length c2 := hdep 6 (by decide)
              refine wp_append_empty (W := w9) byteT (.tmp 54) (.tmp 56) rfl e5 ho5 e6 (HRD.out.b.below hB) (by have := HRD.out.fb.2; omega) hB.size ?_
              intro A9 c9 wq ho9 hb9
              exact hK.out _ _ hb9 (hB.trans (hb9.mono hB.size)) ⟨A9, c9, rfl, ho9⟩
            case s8 =>
              intro ac w1 hF hB hdep K hK
              rw [if_pos rfl]
              obtain ⟨A5, c5, e5, ho5⟩ : ∃ A5 c5, ac.eval (.tmp 53) = .slice A5 x.length c5 ∧ OwnB w9 w1 A5 x.length c5 x := hdep 3 (by decide)
              obtain ⟨A6, c6, e6, ho6⟩ : ∃ A5 c5, ac.eval (.tmp 57) = .slice A5 y.length c5 ∧ OwnB w9 w1 A5 y.length c5 y := hdep 7 (by decide)
              have e5 := ev_tmpD e5
              have e6 := ev_tmpD e6
              go_simp
              exact hK.out _ _ (Below.refl _ _) hB ⟨A5, c5, A6, c6, rfl, ho5, ho6⟩
            case s9 =>
              intro ac w1 hF hB hdep K hK
              rw [if_pos rfl]
              go_simp
              exact hK.out _ _ ((Below.refl _ _).alloc (Nat.le_refl _) _) (hB.alloc hB.size _) ⟨w1.heap.size, rfl, hB.size, Blk.new _ _ _⟩
          case hm => kernel_rfl
          case hb => kernel_rfl
          case inj =>
            intro i j hi hj h
            have h1 : ((List.range 10).all fun i => (List.range 10).all fun j => !(dstW9 i == dstW9 j) || (i == j)) = true := by kernel_rfl
            have h2 := List.all_eq_true.1 (List.all_eq_true.1 h1 i (List.mem_range.2 hi)) j (List.mem_range.2 hj)
            simpa [h] using h2
          case dst => exact all_opsLD (AllFrom.cons rfl (AllFrom.cons rfl (AllFrom.cons rfl (AllFrom.cons rfl (AllFrom.cons rfl (AllFrom.cons rfl (AllFrom.cons rfl (AllFrom.cons rfl (AllFrom.cons rfl (AllFrom.cons rfl AllFrom.nil))))))))))
          case deps =>
            refine deps_ofLD (deps := depsW9) ?_
            kernel_rfl
          case all =>
            refine alls_ofLD ?_
            kernel_rfl
          case want => exact all_opsLD (AllFrom.cons (fun U w hd => rfl) (AllFrom.cons (fun U w hd => rfl) (AllFrom.cons (fun U w hd => rfl) (AllFrom.cons (fun U w hd => rfl) (AllFrom.cons (fun U w hd => rfl) (AllFrom.cons (fun U w hd => rfl) (AllFrom.cons (fun U w hd => rfl) (AllFrom.cons (fun U w hd => rfl) (AllFrom.cons (fun U w hd => rfl) (AllFrom.cons (fun U w hd => rfl) AllFrom.nil))))))))))
          case put => exact all_opsLD (AllFrom.cons (fun _ _ => by kernel_rfl) (AllFrom.cons (fun _ _ => by kernel_rfl) (AllFrom.cons (fun _ _ => by kernel_rfl) (AllFrom.cons (fun _ _ => by kernel_rfl) (AllFrom.cons (fun _ _ => by kernel_rfl) (AllFrom.cons (fun _ _ => by kernel_rfl) (AllFrom.cons (fun _ _ => by kernel_rfl) (AllFrom.cons (fun _ _ => by kernel_rfl) (AllFrom.cons (fun _ _ => by kernel_rfl) (AllFrom.cons (fun _ _ => by kernel_rfl) AllFrom.nil))))))))))
          case ev => exact all_opsLD (AllFrom.cons (fun _ => by kernel_rfl) (AllFrom.cons (fun _ => by kernel_rfl) (AllFrom.cons (fun _ => by kernel_rfl) (AllFrom.cons (fun _ => by kernel_rfl) (AllFrom.cons (fun _ => by kernel_rfl) (AllFrom.cons (fun _ => by kernel_rfl) (AllFrom.cons (fun _ => by kernel_rfl) (AllFrom.cons (fun _ => by kernel_rfl) (AllFrom.cons (fun _ => by kernel_rfl) (AllFrom.cons (fun _ => by kernel_rfl) AllFrom.nil))))))))))
          case fr => exact fun U => (by unfold FrW9; kernel_rfl)
          case last =>
            intro o ho U w' hB hV K hK
            obtain rfl := Option.some.inj (show some _ = some o from ho)
            rw [if_pos (by rfl)]
            obtain ⟨A5, c5, A6, c6, e58, ho5, ho6⟩ : ∃ A5 c5 A6 c6, U 58 = .agg #[.slice A5 x.length c5, .slice A6 y.length c6] ∧ OwnB w9 w' A5 x.length c5 x ∧ OwnB w9 w' A6 y.length c6 y := hV 8 (by decide)
            obtain ⟨g5, e13, hg5, hk5⟩ : ∃ g, U 13 = .pointer (some ⟨g, 0, none⟩) ∧ w9.heap.size ≤ g ∧ Blk w' g 44 #[.slice none 0 0, .slice none 0 0] := hV 9 (by decide)
            refine wp_store_row 44 (.tmp 13) (.tmp 58) rfl g5 #[.slice A5 x.length c5, .slice A6 y.length c6] ((show _ = U 13 from by kernel_rfl).trans e13) ((show _ = U 58 from by kernel_rfl).trans e58) 44 #[.slice none 0 0, .slice none 0 0] hk5 (by kernel_rfl) rfl (by kernel_rfl) ?_
            refine hK.out _ _ ?_
            have HG9 := Lib.hid hg5
            have HK9 := Lib.hid (hk5.row #[.slice A5 x.length c5, .slice A6 y.length c6])
            have HO5 := Lib.hid (own_row_t (cs := #[.slice A5 x.length c5, .slice A6 y.length c6]) ho5 hk5 (by decide))
            have HO6 := Lib.hid (own_row_t (cs := #[.slice A5 x.length c5, .slice A6 y.length c6]) ho6 hk5 (by decide))
            have HB9 := Lib.hid (below_setRow hB hg5 #[.slice A5 x.length c5, .slice A6 y.length c6])
            clear hV hB ho5 ho6 hk5 hg5
            generalize w'.setRow g5 #[.slice A5 x.length c5, .slice A6 y.length c6] = wk at HK9 HO5 HO6 HB9 ⊢
            unfold frameW9
            rw [e13]
            clear e13 e58
            go_simp
            go_wp2_with fail
            go_meet
            exact ⟨g5, A5, c5, A6, c6, rfl, HG9, HK9, HO5, HO6, HB9⟩
        case rest =>
          obtain ⟨g5, A5, c5, A6, c6, rfl, HG5, HK5, HO5, HO6, HB9⟩ := hcut
          rename World => wb
          have HO4 := Lib.hid (own_below HO4.out HB9.out)
          have HK3 := Lib.hid (HK3.out.below HB9.out)
          have hne : g5 ≠ g3 := by have h1 := HG5.out; have h2 := HK3.out.lt; have h3 := HG3.out; have h4 := HGZ.out; have h5 := HB7.out.size; omega
          have y5 : wb.cell? ⟨g5, 0, none⟩ = some (.slice A5 x.length c5) := HK5.out.cell 0
          have y6 : wb.cell? ⟨g5, 1, none⟩ = some (.slice A6 y.length c6) := HK5.out.cell 1
          have f5 := HK5.out.frozen 0
          have f6 := HK5.out.frozen 1
          go_upto_region 13 with fail
          have hk6 : Blk (wb.setCell ⟨g5, 1, none⟩ (.slice A4 N4 c4)) g5 44 #[.slice A5 x.length c5, .slice A4 N4 c4] := HK5.out.set_ 1 _
          have ho4 := own_set_t (i := 1) (u := .slice A4 N4 c4) HO4.out HK5.out (by decide)
          have ho5 := own_set_t (i := 1) (u := .slice A4 N4 c4) HO5.out HK5.out (by decide)
          have hk3 := HK3.out.set_other (i := 1) (u := .slice A4 N4 c4) hne.symm
          have hbx := HB9.out.setCell (p := ⟨g5, 1, none⟩) HG5.out (.slice A4 N4 c4)
          clear y5 y6 f5 f6
          generalize wb.setCell ⟨g5, 1, none⟩ (.slice A4 N4 c4) = wd at hk6 ho4 ho5 hk3 hbx ⊢
          have HK6 := Lib.hid hk6
          have HK3 := Lib.hid hk3
          have HO4 := Lib.hid (own_row_t (cs := #[.slice A5 x.length c5, .slice A4 N4 c4]) ho4 hk3 (by decide))
          have HO5 := Lib.hid (own_row_t (cs := #[.slice A5 x.length c5, .slice A4 N4 c4]) ho5 hk3 (by decide))
          have HBX := Lib.hid (below_setRow ((HBB.out.trans (HB4.out.mono HBB.out.size)).trans ((HB7.out.trans (hbx.mono HB7.out.size)).mono (Nat.le_trans HBB.out.size HB4.out.size))) HGL.out #[.slice A5 x.length c5, .slice A4 N4 c4])
          clear hk6 ho4 ho5 hk3 hbx
          go_wp2_with (first
            | (refine wpList_load_row rfl  44 (.tmp 13) rfl g5 rfl 44 #[.slice A5 x.length c5, .slice A4 N4 c4] (0, 0) _ HK6.out Try.underlying44 rfl (by kernel_rfl) ?_)
            | (refine wpList_store_row rfl 44 (.tmp 6) (.tmp 70) rfl g3 #[.slice A5 x.length c5, .slice A4 N4 c4] rfl rfl 44 #[.slice none 0 0, .slice none 0 0] HK3.out (by kernel_rfl) rfl (by kernel_rfl) ?_)
            | fail)
          refine bodyPost_ret (results_cell_row rfl _ _ _ _ _ _ _ rfl (HK3.out.row #[.slice A5 x.length c5, .slice A4 N4 c4]) Try.underlying44 rfl (by kernel_rfl)) rfl ?_
          have hP : (x, Y) = (P1, P2) := by have := HP.out; rw [HKP.out] at this; exact this
          injection hP with e1 e2
          rw [← e1, ← e2]
          have hry : Rd (wd.setRow g3 #[.slice A5 x.length c5, .slice A4 N4 c4]) (wd.setRow g3 #[.slice A5 x.length c5, .slice A4 N4 c4]).heap.size A4 N4 (bv Y) := by rw [HN3.out, bv_take]; exact (Rd.own_ HO4.out).take HN2.out
          have hc4 := HC4.out
          have hn2 := HN2.out
          exact ⟨_, _, _, _, _, _, rfl, ⟨Rd.own_ HO5.out, hry, own_cap HO5.out, ⟨by omega, hc4.2⟩, HRZ.out.fa, HFY.out⟩, HBX.out, HBX.out⟩
  · have hx := HNX.out.2.2 h1
    have HE : Hid (NB + 1 = NX) := Lib.hid hx.1.symm
    have HKP := Lib.hid hx.2
    have hmax : max NA NB = NB := by omega
    have hq : ¬ NB ≤ NA := by omega
    have h2 : 0 ≤ NB := by omega
    clear hx
    by_cases hn : 0 ≤ NA
    all_goals
      go_upto_region 6 with fail
      rw [HE.out]
      go_upto_region 7 with (first
        | (refine wpList_load_row rfl  46 (.tmp 4) rfl g2 rfl 46 #[.int .i64 i, .int .i64 p, .int .i64 q] (0, 0) _ HK2.out Try.underlying46 rfl (by kernel_rfl) ?_)
        | (go_at_call 31; refine (refslot (W := w4) HSS.out (Below.refl _ _)).mono ?_; rintro en w7 ⟨A4, c4, rfl, ho, hB, hb⟩
           have HO4 := Lib.hid ho
           have HB7 := Lib.hid hB
           clear ho hB hb)
        | fail)
      have hcap := own_cap HO4.out
      obtain ⟨D, hD⟩ : ∃ d, decide (0 ≤ cut ∧ cut < (S.length : Int)) = d := ⟨_, rfl⟩
      go_cut [46] from 39 to 45 (fun s46 wx => s46 = .bool D ∧ wx = w7)
      case first =>
        by_cases q1 : 0 ≤ cut
        · by_cases q2 : cut < (S.length : Int)
          · have hD2 : D = true := by rw [← hD]; exact decide_eq_true ⟨q1, q2⟩
            subst hD2
            clear hD
            go_wp2_with fail
            go_meet
            exact ⟨rfl, rfl⟩
          · have hD2 : D = false := by rw [← hD]; exact decide_eq_false (fun h => q2 h.2)
            subst hD2
            clear hD
            go_wp2_with fail
            go_meet
            exact ⟨rfl, rfl⟩
        · have hD2 : D = false := by rw [← hD]; exact decide_eq_false (fun h => q1 h.1)
          subst hD2
          clear hD
          go_wp2_with fail
          go_meet
          exact ⟨rfl, rfl⟩
      case rest =>
        obtain ⟨rfl, rfl⟩ := hcut
        rename World => w7
        have hN4 : ∃ N4 : Nat, N4 = (if D = true then cut.toNat else S.length) ∧ N4 ≤ S.length ∧ Y = S.take N4 ∧ (D = true → cut = (N4 : Int)) := by
          have hy := HY.out
          unfold Dk.head at hy
          cases D with
          | true =>
            have h3 := of_decide_eq_true hD
            rw [if_neg (by omega)] at hy
            exact ⟨cut.toNat, rfl, by omega, hy.symm, fun _ => by omega⟩
          | false =>
            have h3 := of_decide_eq_false hD
            refine ⟨S.length, rfl, Nat.le_refl _, ?_, fun h => by cases h⟩
            rw [List.take_length]
            split at hy
            · exact hy.symm
            · rw [← hy, List.take_of_length_le (by omega)]
        obtain ⟨N4, hN1, hN2, hN3, hN5⟩ := hN4
        have HN3 := Lib.hid hN3
        have hk4 : N4 ≤ c4 := by omega
        have HFY : Hid (Dk.Fine Y) := Lib.hid (by
          rw [hN3]
          exact ⟨fun z hz => HSB.out z (List.mem_of_mem_take hz), by rw [List.length_take]; have := HSL.out; omega⟩)
        have HC4 := Lib.hid hcap
        have HN2 := Lib.hid hN2
        have HK1 : Hid (∀ wx, Below w7.heap.size w7 wx → Blk wx g1 44 #[.slice A x.length c, .slice A2 y.length c2]) := Lib.hid fun wx hx => (HK1.out.below HB7.out).below hx
        have HK3 := Lib.hid (HK3.out.below HB7.out)
        have HRD := Lib.hid (HRZ.out.below HB7.out)
        obtain ⟨i9, hi1, hi2, hi3, hi4⟩ := info_parts byteT.info
        have hs1 := run_slice_to (P := Try.prog) (t := 22) byteT.under hi1 A4 S.length c4 N4 hk4
        clear hi1 hi2 hi3 hi4 hcap hN2 hN3 hk4 HKA HKB HK2
        cases D
        all_goals
          first | (have hcut := hN5 rfl; subst hcut; clear hN1) | rw [if_neg (by decide)] at hN1
          clear hN5 hD
          go_upto_region 9 with fail
          clear hs1
          obtain ⟨w9, hw9⟩ : ∃ x, w7 = x := ⟨_, rfl⟩
          rw [hw9] at HK1 HK3 HRD HO4 HB7 ⊢
          clear hw9
          try rw [← hN1]
          try clear hN1
          go_cut [13] from 50 to 58 (fun s13 wx => ∃ (g5 : Nat) (A5 : Option Addr) (c5 : Nat) (A6 : Option Addr) (c6 : Nat), s13 = .pointer (some ⟨g5, 0, none⟩) ∧ Hid (w9.heap.size ≤ g5) ∧ Hid (Blk wx g5 44 #[.slice A5 x.length c5, .slice A6 y.length c6]) ∧ Hid (OwnB w9 wx A5 x.length c5 x) ∧ Hid (OwnB w9 wx A6 y.length c6 y) ∧ Hid (Below w9.heap.size w9 wx))
          case first =>
            refine region_invL (L := 10) (U0 := fun _ => undef) (frameW9 w9 g1 A A2 c c2 x y _ _ _ _ _ _ _ _ _ _ _ _ _ _ _ _ _ _ _ _ _ _ _ _ _ _ _ _ _ _ _ _ _ _ _ _ _ _ _ _ _ _ _ _ _ _ _ _ _ _ _ _ _ _ _ _ _ _ _ _) dstW9 depsW9 (fun _ => true) (VE (kindsW9 w9 g1 A A2 c c2 x y)) (FrW9 w9 g1 A A2 c c2 x y) rfl ?hm ?hb ?inj ?dst ?deps ?all ?want ?put ?ev ?fr (VE.ext _) (Below.refl _ _) ?hok ?last
            case hok =>
              refine all_opsLD (AllFrom.cons ?s0 (AllFrom.cons ?s1 (AllFrom.cons ?s2 (AllFrom.cons ?s3 (AllFrom.cons ?s4 (AllFrom.cons ?s5 (AllFrom.cons ?s6 (AllFrom.cons ?s7 (AllFrom.cons ?s8 (AllFrom.cons ?s9 AllFrom.nil))))))))))
              case s0 =>
                intro ac w1 hF hB hdep K hK
                rw [if_pos rfl]
                go_simp
                exact hK.out _ _ ((Below.refl _ _).alloc (Nat.le_refl _) _) (hB.alloc hB.size _) ⟨w1.heap.size, rfl, own_empty hB _⟩
              case s1 =>
                intro ac w1 hF hB hdep K hK
                rw [if_pos rfl]
                have f3 : ac.tmps[3]?.getD undef = .pointer (some ⟨g1, 0, none⟩) := ev_tmpD hF
                have hk := HK1.out _ hB
                have c0 : w1.cell? ⟨g1, 0, none⟩ = some (.slice A x.length c) := hk.cell 0
                go_simp
                exact hK.out _ _ (Below.refl _ _) hB rfl
              case s2 =>
                intro ac w1 hF hB hdep K hK
                rw [if_pos rfl]
                have e1 : ac.tmps[51]?.getD undef = .pointer (some ⟨g1, 0, none⟩) := ev_tmpD (show ac.eval (.tmp 51) = .pointer (some ⟨g1, 0, none⟩) from hdep 1 (by decide))
                have c0 : w1.cell? ⟨g1, 0, none⟩ = some (.slice A x.length c) := (HK1.out _ hB).cell 0
                go_simp
                exact hK.out _ _ (Below.refl _ _) hB rfl
              case s3 =>
                intro ac w1 hF hB hdep K hK
                rw [if_pos rfl]
                obtain ⟨g5, e5, ho5⟩ : ∃ g, ac.eval (.tmp 50) = .slice (some ⟨g, 0, none⟩) 0 0 ∧ OwnB w9 w1 (some ⟨g, 0, none⟩) 0 0 [] := hdep 0 (by decide)
                have e6 : ac.eval (.tmp 52) = .slice A x.length c := hdep 2 (by decide)
                refine wp_append_empty (W := w9) byteT (.tmp 50) (.tmp 52) rfl e5 ho5 e6 (HRD.out.a.below hB) (by have := HRD.out.fa.2; omega) hB.size ?_
                intro A9 c9 wq ho9 hb9
                exact hK.out _ _ hb9 (hB.trans (hb9.mono hB.size)) ⟨A9, c9, rfl, ho9⟩
              case s4 =>
                intro ac w1 hF hB hdep K hK
                rw [if_pos rfl]
                go_simp
                exact hK.out _ _ ((Below.refl _ _).alloc (Nat.le_refl _) _) (hB.alloc hB.size _) ⟨w1.heap.size, rfl, own_empty hB _⟩
              case s5 =>
                intro ac w1 hF hB hdep K hK
                rw [if_pos rfl]
                have f3 : ac.tmps[3]?.getD undef = .pointer (some ⟨g1, 0, none⟩) := ev_tmpD hF
                have hk := HK1.out _ hB
                have c0 : w1.cell? ⟨g1, 1, none⟩ = some (.slice A2 y.length c2) := hk.cell 1
                go_simp
                exact hK.out _ _ (Below.refl _ _) hB rfl
              case s6 =>
                intro ac w1 hF hB hdep K hK
                rw [if_pos rfl]
                have e5 : ac.tmps[55]?.getD undef = .pointer (some ⟨g1, 1, none⟩) := ev_tmpD (show ac.eval (.tmp 55) = .pointer (some ⟨g1, 1, none⟩) from hdep 5 (by decide))
                have c0 : w1.cell? ⟨g1, 1, none⟩ = some (.slice A2 y.length c2) := (HK1.out _ hB).cell 1
                go_simp
                exact hK.out _ _ (Below.refl _ _) hB rfl
              case s7 =>
                intro ac w1 hF hB hdep K hK
                rw [if_pos rfl]
                obtain ⟨g5, e5, ho5⟩ : ∃ g, ac.eval (.tmp 54) = .slice (some ⟨g, 0, none⟩) 0 0 ∧ OwnB w9 w1 (some ⟨g, 0, none⟩) 0 0 [] := hdep 4 (by decide)
                have e6 : ac.eval (.tmp 56) = .slice A2 y.length c2 := hdep 6 (by decide)
                refine wp_append_empty (W := w9) byteT (.tmp 54) (.tmp 56) rfl e5 ho5 e6 (HRD.out.b.below hB) (by have := HRD.out.fb.2; omega) hB.size ?_
                intro A9 c9 wq ho9 hb9
                exact hK.out _ _ hb9 (hB.trans (hb9.mono hB.size)) ⟨A9, c9, rfl, ho9⟩
              case s8 =>
                intro ac w1 hF hB hdep K hK
                rw [if_pos rfl]
                obtain ⟨A5, c5, e5, ho5⟩ : ∃ A5 c5, ac.eval (.tmp 53) = .slice A5 x.length c5 ∧ OwnB w9 w1 A5 x.length c5 x := hdep 3 (by decide)
                obtain ⟨A6, c6, e6, ho6⟩ : ∃ A5 c5, ac.eval (.tmp 57) = .slice A5 y.length c5 ∧ OwnB w9 w1 A5 y.length c5 y := hdep 7 (by decide)
                have e5 := ev_tmpD e5
                have e6 := ev_tmpD e6
                go_simp
                exact hK.out _ _ (Below.refl _ _) hB ⟨A5, c5, A6, c6, rfl, ho5, ho6⟩
              case s9 =>
                intro ac w1 hF hB hdep K hK
                rw [if_pos rfl]
                go_simp
                exact hK.out _ _ ((Below.refl _ _).alloc (Nat.le_refl _) _) (hB.alloc hB.size _) ⟨w1.heap.size, rfl, hB.size, Blk.new _ _ _⟩
            case hm => kernel_rfl
            case hb => kernel_rfl
            case inj =>
              intro i j hi hj h
              have h1 : ((List.range 10).all fun i => (List.range 10).all fun j => !(dstW9 i == dstW9 j) || (i == j)) = true := by kernel_rfl
              have h2 := List.all_eq_true.1 (List.all_eq_true.1 h1 i (List.mem_range.2 hi)) j (List.mem_range.2 hj)
              simpa [h] using h2
            case dst => exact all_opsLD (AllFrom.cons rfl (AllFrom.cons rfl (AllFrom.cons rfl (AllFrom.cons rfl (AllFrom.cons rfl (AllFrom.cons rfl (AllFrom.cons rfl (AllFrom.cons rfl (AllFrom.cons rfl (AllFrom.cons rfl AllFrom.nil))))))))))
            case deps =>
              refine deps_ofLD (deps := depsW9) ?_
              kernel_rfl
            case all =>
              refine alls_ofLD ?_
              kernel_rfl
            case want => exact all_opsLD (AllFrom.cons (fun U w hd => rfl) (AllFrom.cons (fun U w hd => rfl) (AllFrom.cons (fun U w hd => rfl) (AllFrom.cons (fun U w hd => rfl) (AllFrom.cons (fun U w hd => rfl) (AllFrom.cons (fun U w hd => rfl) (AllFrom.cons (fun U w hd => rfl) (AllFrom.cons (fun U w hd => rfl) (AllFrom.cons (fun U w hd => rfl) (AllFrom.cons (fun U w hd => rfl) AllFrom.nil))))))))))
            case put => exact all_opsLD (AllFrom.cons (fun _ _ => by kernel_rfl) (AllFrom.cons (fun _ _ => by kernel_rfl) (AllFrom.cons (fun _ _ => by kernel_rfl) (AllFrom.cons (fun _ _ => by kernel_rfl) (AllFrom.cons (fun _ _ => by kernel_rfl) (AllFrom.cons (fun _ _ => by kernel_rfl) (AllFrom.cons (fun _ _ => by kernel_rfl) (AllFrom.cons (fun _ _ => by kernel_rfl) (AllFrom.cons (fun _ _ => by kernel_rfl) (AllFrom.cons (fun _ _ => by kernel_rfl) AllFrom.nil))))))))))
            case ev => exact all_opsLD (AllFrom.cons (fun _ => by kernel_rfl) (AllFrom.cons (fun _ => by kernel_rfl) (AllFrom.cons (fun _ => by kernel_rfl) (AllFrom.cons (fun _ => by kernel_rfl) (AllFrom.cons (fun _ => by kernel_rfl) (AllFrom.cons (fun _ => by kernel_rfl) (AllFrom.cons (fun _ => by kernel_rfl) (AllFrom.cons (fun _ => by kernel_rfl) (AllFrom.cons (fun _ => by kernel_rfl) (AllFrom.cons (fun _ => by kernel_rfl) AllFrom.nil))))))))))
            case fr => exact fun U => (by unfold FrW9; kernel_rfl)
            case last =>
              intro o ho U w' hB hV K hK
              obtain rfl := Option.some.inj (show some _ = some o from ho)
              rw [if_pos (by rfl)]
              obtain ⟨A5, c5, A6, c6, e58, ho5, ho6⟩ : ∃ A5 c5 A6 c6, U 58 = .agg #[.slice A5 x.length c5, .slice A6 y.length c6] ∧ OwnB w9 w' A5 x.length c5 x ∧ OwnB w9 w' A6 y.length c6 y := hV 8 (by decide)
              obtain ⟨g5, e13, hg5, hk5⟩ : ∃ g, U 13 = .pointer (some ⟨g, 0, none⟩) ∧ w9.heap.size ≤ g ∧ Blk w' g 44 #[.slice none 0 0, .slice none 0 0] := hV 9 (by decide)
              refine wp_store_row 44 (.tmp 13) (.tmp 58) rfl g5 #[.slice A5 x.length c5, .slice A6 y.length c6] ((show _ = U 13 from by kernel_rfl).trans e13) ((show _ = U 58 from by kernel_rfl).trans e58) 44 #[.slice none 0 0, .slice none 0 0] hk5 (by kernel_rfl) rfl (by kernel_rfl) ?_
              refine hK.out _ _ ?_
              have HG9 := Lib.hid hg5
              have HK9 := Lib.hid (hk5.row #[.slice A5 x.length c5, .slice A6 y.length c6])
              have HO5 := Lib.hid (own_row_t (cs := #[.slice A5 x.length c5, .slice A6 y.length c6]) ho5 hk5 (by decide))
              have HO6 := Lib.hid (own_row_t (cs := #[.slice A5 x.length c5, .slice A6 y.length c6]) ho6 hk5 (by decide))
              have HB9 := Lib.hid (below_setRow hB hg5 #[.slice A5 x.length c5, .slice A6 y.length c6])
              clear hV hB ho5 ho6 hk5 hg5
              generalize w'.setRow g5 #[.slice A5 x.length c5, .slice A6 y.length c6] = wk at HK9 HO5 HO6 HB9 ⊢
              unfold frameW9
              rw [e13]
              clear e13 e58
              go_simp
              go_wp2_with fail
              go_meet
              exact ⟨g5, A5, c5, A6, c6, rfl, HG9, HK9, HO5, HO6, HB9⟩
          case rest =>
            obtain ⟨g5, A5, c5, A6, c6, rfl, HG5, HK5, HO5, HO6, HB9⟩ := hcut
            rename World => wb
            have HO4 := Lib.hid (own_below HO4.out HB9.out)
            have HK3 := Lib.hid (HK3.out.below HB9.out)
            have hne : g5 ≠ g3 := by have h1 := HG5.out; have h2 := HK3.out.lt; have h3 := HG3.out; have h4 := HGZ.out; have h5 := HB7.out.size; omega
            have y5 : wb.cell? ⟨g5, 0, none⟩ = some (.slice A5 x.length c5) := HK5.out.cell 0
            have y6 : wb.cell? ⟨g5, 1, none⟩ = some (.slice A6 y.length c6) := HK5.out.cell 1
            have f5 := HK5.out.frozen 0
            have f6 := HK5.out.frozen 1
            go_upto_region 13 with fail
            have hk6 : Blk (wb.setCell ⟨g5, 0, none⟩ (.slice A4 N4 c4)) g5 44 #[.slice A4 N4 c4, .slice A6 y.length c6] := HK5.out.set_ 0 _
            have ho4 := own_set_t (i := 0) (u := .slice A4 N4 c4) HO4.out HK5.out (by decide)
            have ho5 := own_set_t (i := 0) (u := .slice A4 N4 c4) HO6.out HK5.out (by decide)
            have hk3 := HK3.out.set_other (i := 0) (u := .slice A4 N4 c4) hne.symm
            have hbx := HB9.out.setCell (p := ⟨g5, 0, none⟩) HG5.out (.slice A4 N4 c4)
            clear y5 y6 f5 f6
            generalize wb.setCell ⟨g5, 0, none⟩ (.slice A4 N4 c4) = wd at hk6 ho4 ho5 hk3 hbx ⊢
            have HK6 := Lib.hid hk6
            have HK3 := Lib.hid hk3
            have HO4 := Lib.hid (own_row_t (cs := #[.slice A4 N4 c4, .slice A6 y.length c6]) ho4 hk3 (by decide))
            have HO5 := Lib.hid (own_row_t (cs := #[.slice A4 N4 c4, .slice A6 y.length c6]) ho5 hk3 (by decide))
            have HBX := Lib.hid (below_setRow ((HBB.out.trans (HB4.out.mono HBB.out.size)).trans ((HB7.out.trans (hbx.mono HB7.out.size)).mono (Nat.le_trans HBB.out.size HB4.out.size))) HGL.out #[.slice A4 N4 c4, .slice A6 y.length c6])
            clear hk6 ho4 ho5 hk3 hbx
            go_wp2_with (first
              | (refine wpList_load_row rfl  44 (.tmp 13) rfl g5 rfl 44 #[.slice A4 N4 c4, .slice A6 y.length c6] (0, 0) _ HK6.out Try.underlying44 rfl (by kernel_rfl) ?_)
              | (refine wpList_store_row rfl 44 (.tmp 6) (.tmp 70) rfl g3 #[.slice A4 N4 c4, .slice A6 y.length c6] rfl rfl 44 #[.slice none 0 0, .slice none 0 0] HK3.out (by kernel_rfl) rfl (by kernel_rfl) ?_)
              | fail)
            refine bodyPost_ret (results_cell_row rfl _ _ _ _ _ _ _ rfl (HK3.out.row #[.slice A4 N4 c4, .slice A6 y.length c6]) Try.underlying44 rfl (by kernel_rfl)) rfl ?_
            have hP : (Y, y) = (P1, P2) := by have := HP.out; rw [HKP.out] at this; exact this
            injection hP with e1 e2
            rw [← e1, ← e2]
            have hry : Rd (wd.setRow g3 #[.slice A4 N4 c4, .slice A6 y.length c6]) (wd.setRow g3 #[.slice A4 N4 c4, .slice A6 y.length c6]).heap.size A4 N4 (bv Y) := by rw [HN3.out, bv_take]; exact (Rd.own_ HO4.out).take HN2.out
            have hc4 := HC4.out
            have hn2 := HN2.out
            exact ⟨_, _, _, _, _, _, rfl, ⟨hry, Rd.own_ HO5.out, ⟨by omega, hc4.2⟩, own_cap HO5.out, HFY.out, HRZ.out.fb⟩, HBX.out, HBX.out⟩
theorem refwrite {W w : World} {A A2 : Option Addr} {n c n2 c2 : Nat} {x y x' y' : List Nat} {i p q cut : Int} (he : Dk.write x y i p q cut = (x', y')) (h : RdD w A A2 n c n2 c2 x y) (hB : Below W.heap.size W w) : Calls Try.prog 32 #[.agg #[.slice A n c, .slice A2 n2 c2], .agg #[.int .i64 i, .int .i64 p, .int .i64 q], .int .i64 cut] w (GotDR W w x' y') := by
  obtain rfl := h.a.length
  obtain rfl := h.b.length
  have q := refwrite_raw i p q cut h
  rw [he] at q
  exact q.mono fun e w' ⟨A, n, c, A', n', c', h1, h2, h3, h4⟩ => ⟨A, n, c, A', n', c', h1, h2, hB.trans (h3.mono hB.size), h4⟩
end Go.Proofs.Ytlfkgpllleogoaa

