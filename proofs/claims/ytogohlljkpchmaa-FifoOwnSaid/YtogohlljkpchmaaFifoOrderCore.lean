/- FifoOrder: the walk, over any two contracts of the code's. -/
import Derived.Test.YtogohlljkpchmaaFifoPlaysCore
namespace Go.Proofs.Ytogohlljkpchmaa
open Go.RowKit
set_option linter.unusedVariables false
/-- those that are short enough -/
def shorts (qs : List (List Nat)) : List (List Nat) := qs.filter fun l => decide (l.length ≤ 16)
theorem shorts_yes {qs : List (List Nat)} {i : Nat} {l : List Nat} (h : qs[i]? = some l) (hs : l.length ≤ 16) : shorts (qs.take (i + 1)) = shorts (qs.take i) ++ [l] := by
  unfold shorts; rw [List.take_add_one, h]; simp [List.filter_append, hs]
theorem shorts_no {qs : List (List Nat)} {i : Nat} {l : List Nat} (h : qs[i]? = some l) (hs : ¬ l.length ≤ 16) : shorts (qs.take (i + 1)) = shorts (qs.take i) := by
  unfold shorts; rw [List.take_add_one, h]; simp [List.filter_append, hs]
theorem shorts_mem {qs : List (List Nat)} {l : List Nat} (h : l ∈ shorts qs) : l ∈ qs ∧ l.length ≤ 16 := by
  unfold shorts at h; simpa using h
theorem shorts_pre (qs : List (List Nat)) {i j : Nat} (h : i ≤ j) : shorts (qs.take i) <+: shorts (qs.take j) := by
  unfold shorts
  exact (List.take_prefix_take_left h).filter _
theorem shorts_at {qs : List (List Nat)} {i j k n : Nat} {l : List Nat} (hQ : (shorts (qs.take i)).length = n) (hk : k = (shorts (qs.take j)).length) (hlt : k < n) (h : qs[j]? = some l) (hs : l.length ≤ 16) : ((shorts (qs.take i)).drop k)[0]? = some l := by
  rw [List.getElem?_drop, Nat.add_zero]
  rcases Nat.lt_or_ge j i with h1 | h1
  · have h2 := shorts_pre qs (show j + 1 ≤ i by omega)
    rw [shorts_yes h hs] at h2
    obtain ⟨t, ht⟩ := h2
    rw [← ht, List.append_assoc, List.getElem?_append_right (by omega), hk]
    simp
  · have h2 := (shorts_pre qs h1).length_le
    omega
/-- the queue reads as qs -/
structure One (w wr : World) (A : Option Addr) (n c : Nat) (qs : List (List Nat)) : Prop where
  r1 : RdQ wr wr.heap.size A n qs
  le : n ≤ c
  few : n ≤ 8
  lim : LimL qs
  byt : BytesL qs
  bel : Below w.heap.size w wr
theorem One.push {w wr : World} {A A'' : Option Addr} {n c n'' c'' B : Nat} {qs : List (List Nat)} {v : List Nat} (hP : PushC) (h : One w wr A n c qs) (hl : v.length ≤ 16) (hv : ∀ x ∈ v, x < 256) (hr : Rd wr B A'' n'' (bv v)) (h8 : n < 8) :
    Calls Try.prog 7 #[.slice A n c, .slice A'' n'' c''] wr fun e w' => ∃ A1 c1 A2 c2, e = .returned (.tuple #[.slice A1 (n + 1) c1, .agg #[.int .i64 0, .slice A2 0 c2, .int .i64 ((n : Int) + 1)]]) ∧ One w w' A1 (n + 1) c1 (qs ++ [v]) ∧ Below wr.heap.size wr w' := by
  have h12 := h.few
  have hn := hr.length
  have hq := h.r1.length
  have e1 : pushS qs v = qs ++ [v] := by unfold pushS; rw [if_neg (by omega), if_neg (by omega)]
  have e2 : pushE qs v = 0 := by unfold pushE; rw [if_neg (by omega), if_neg (by omega)]
  have e3 : pushN qs v = (n : Int) + 1 := by unfold pushN; rw [if_neg (by omega), if_neg (by omega), hq]; omega
  have h1 := hP (c := c) (c' := c'') (by omega : n ≤ 100000) h.lim (by unfold Lim; omega) h.r1 hr h.bel
  rw [e1, e2, e3] at h1
  refine h1.mono ?_
  rintro e w' ⟨A1, c1, A2, c2, rfl, h2, h3, h4, h5⟩
  have e4 : (qs ++ [v]).length = n + 1 := by simp [hq]
  rw [e4] at h2 ⊢
  refine ⟨A1, c1, A2, c2, rfl, ⟨h2.rd, h2.cap, by omega, ?_, ?_, h4⟩, h5⟩
  · intro l hl'; rcases List.mem_append.1 hl' with h1 | h1
    · exact h.lim l h1
    · simp at h1; subst h1; unfold Lim; omega
  · intro l hl'; rcases List.mem_append.1 hl' with h1 | h1
    · exact h.byt l h1
    · simp at h1; subst h1; exact hv
/-- one more, of one byte: refused where it is full -/
theorem One.more {w wr : World} {A A'' : Option Addr} {n c n'' c'' B : Nat} {qs : List (List Nat)} {v : List Nat} (hP : PushC) (h : One w wr A n c qs) (hl : v.length ≤ 16) (hr : Rd wr B A'' n'' (bv v)) :
    Calls Try.prog 7 #[.slice A n c, .slice A'' n'' c''] wr fun e w' => ∃ A1 m1 c1 A2 c2 E N, e = .returned (.tuple #[.slice A1 m1 c1, .agg #[.int .i64 E, .slice A2 0 c2, .int .i64 N]]) ∧ (n = 8 → E = 3) ∧ Below w.heap.size w w' ∧ Below wr.heap.size wr w' := by
  have h12 := h.few
  have hn := hr.length
  have hq := h.r1.length
  refine (hP (c := c) (c' := c'') (by omega : n ≤ 100000) h.lim (by unfold Lim; omega) h.r1 hr h.bel).mono ?_
  rintro e w' ⟨A1, c1, A2, c2, rfl, h2, h3, h4, h5⟩
  exact ⟨A1, _, c1, A2, c2, _, _, rfl, fun h8 => by unfold pushE; rw [if_neg (by omega), if_pos (by omega)], h4, h5⟩
theorem One.pop {w wr : World} {A : Option Addr} {n c : Nat} {qs : List (List Nat)} {v : List Nat} (hQ : PopC) (h : One w wr A n c qs) (hv : qs[0]? = some v) :
    Calls Try.prog 9 #[.slice A n c] wr fun e w' => ∃ A1 c1 A2 c2, e = .returned (.tuple #[.slice A1 (n - 1) c1, .agg #[.int .i64 0, .slice A2 v.length c2, .int .i64 0]]) ∧ One w w' A1 (n - 1) c1 (qs.drop 1) ∧ Rd w' w'.heap.size A2 v.length (bv v) ∧ Below wr.heap.size wr w' := by
  have h12 := h.few
  have hq := h.r1.length
  have h0 : qs.length ≠ 0 := by intro h0; rw [List.eq_nil_of_length_eq_zero h0] at hv; simp at hv
  have e2 : popE qs = 0 := by unfold popE; rw [if_neg h0]
  have e3 : popV qs = v := by unfold popV; rw [List.head?_eq_getElem?, hv]; rfl
  have h1 := hQ (by omega : n ≤ 100000) h.le h.lim h.r1 h.bel
  rw [e2, e3] at h1
  refine h1.mono ?_
  rintro e w' ⟨A1, c1, A2, c2, rfl, h2, h3, h4, h5⟩
  have e4 : qs.tail.length = n - 1 := by simp [hq]
  rw [e4] at h2 ⊢
  rw [List.drop_one]
  exact ⟨A1, c1, A2, c2, rfl, ⟨h2.rd, h2.cap, by omega, fun l hl => h.lim l (List.mem_of_mem_tail hl), fun l hl => h.byt l (List.mem_of_mem_tail hl), h4⟩, Rd.own_ h3, h5⟩
set_option maxHeartbeats 4000000 in
set_option maxRecDepth 100000 in
theorem fifoOrder_core (hP : PushC) (hQ : PopC) (hA : AwakeC) (a1 : Option Addr) (len1 cap1 : Nat) (z1 : List (List Nat)) (w : World) (w1 : IsRowQ w a1 len1 cap1 z1) :
    Calls Try.prog 6 #[.slice a1 len1 cap1] w fun e w' => e = .returned (.bool true) ∧ Below w.heap.size w w' := by
  obtain ⟨hr1, hle1, hcap1, hby⟩ := w1
  have hn1 : len1 ≤ 9223372036854775807 := Nat.le_trans hle1 hcap1
  have HR := Lib.hid hr1
  have HL1 := Lib.hid hr1.length
  have HBY := Lib.hid hby
  clear hcap1 hr1 hby
  go_enter Try.func6, Try.ntmps6
  go_wp2
  go_loopw [3, 4, 5] (fun s3 s4 s5 wr => ∃ (i n c : Nat) (A : Option Addr), i ≤ len1 ∧ s5 = .int .i64 (i : Int) ∧ s4 = .int .i64 (n : Int) ∧ s3 = .slice A n c ∧ n ≤ 8 ∧ Hid (One w wr A n c (shorts (z1.take i)))) (fun _ _ s5 _ => len1 - (intOf s5).toNat)
  case atStart => exact ⟨0, 0, 0, none, Nat.zero_le _, rfl, rfl, rfl, by omega, Lib.hid ⟨RdQ.nil _ _ _, Nat.le_refl _, by omega, fun l h => by simp [shorts] at h, fun l h => by simp [shorts] at h, Below.refl _ _⟩⟩
  case round =>
    obtain ⟨i, n, c, A, hi, rfl, rfl, rfl, h8, HO⟩ := hrel
    by_cases hlt : i < len1 ∧ n < 8
    · obtain ⟨hlt, hn8⟩ := hlt
      have hk1 : (i : Int) < (len1 : Int) := by omega
      have hk2 : (n : Int) < 8 := by omega
      have HB := Lib.hid HO.out.bel
      obtain ⟨b, o, l, A5, c5, rfl, hl, hcell, hrd⟩ := ((HR.out.below HB.out).fit).at hlt
      have HRD := Lib.hid hrd
      have HLL := Lib.hid hl
      clear hrd hl
      by_cases h16 : 16 < l.length
      · go_wp2
        go_roundw
        case rel => exact ⟨i + 1, n, c, A, by omega, by go_num, rfl, rfl, h8, Lib.hid (by rw [shorts_no HLL.out (by omega)]; exact HO.out)⟩
        case measure => simp [intOf]; omega
      · go_wp2_with fail
        refine (One.push hP HO.out (by omega) (HBY.out l (List.mem_of_getElem? HLL.out)) HRD.out hn8).mono ?_
        rintro e w1 ⟨A1, c1, A2, c2, rfl, ho, hb1⟩
        have HO1 := Lib.hid ho
        clear ho
        have hv1 : IntKind.i64.wrap ((n : Int) + 1) = (n : Int) + 1 := IntWalk.i64_in _ (by omega)
        go_wp2
        go_roundw
        case rel => exact ⟨i + 1, n + 1, c1, A1, by omega, by go_num, by go_num, rfl, by omega, Lib.hid (by
            rw [shorts_yes HLL.out (by omega)]
            have h := HO1.out
            have b1 : Below w1.heap.size w1 (w1.alloc (.cells #[.int .i64 0, .slice A2 0 c2, .int .i64 ((n : Int) + 1)] 26)) := (Below.refl _ _).alloc (Nat.le_refl _) _
            exact ⟨(h.r1.below b1).fit, h.le, h.few, h.lim, h.byt, h.bel.alloc h.bel.size _⟩)⟩
        case measure => simp [intOf]; omega
    · have HE := Lib.hid (show i = len1 ∨ n = 8 by omega)
      have HI := Lib.hid hi
      have HB := Lib.hid HO.out.bel
      have kc := fun (w : World) (C : Array Value) (n c : Nat) => Lib.run_convert_bytes_const (P := Try.prog) w 24 5 C n c Try.underlying24 Try.underlying5
      have hR0 : Rd (wr.alloc (.cells #[.int .u8 120] 5 (1, 2))) (wr.heap.size + 1) (some ⟨wr.heap.size, 0, none⟩) 1 (bv [120]) := Rd.made wr #[.int .u8 120] 5 (1, 2) 1 rfl
      have HO1 : Hid (One w (wr.alloc (.cells #[.int .u8 120] 5 (1, 2))) A n c (shorts (z1.take i))) := Lib.hid ⟨(HO.out.r1.below' ((Below.refl _ _).alloc (Nat.le_refl _) _)), HO.out.le, HO.out.few, HO.out.lim, HO.out.byt, HB.out.alloc HB.out.size _⟩
      have hM := One.more hP HO1.out (c'' := 1) (by decide) hR0
      have HM := Lib.hid hM
      have b0 := Lib.hid ((Below.refl wr.heap.size wr).alloc (Nat.le_refl _) (.cells #[.int .u8 120] 5 (1, 2)))
      have HN8 := Lib.hid h8
      clear hM hR0 h8
      by_cases hi1 : i < len1
      · have hk1 : (i : Int) < (len1 : Int) := by omega
        have hn8 : n = 8 := by have := HE.out; omega
        subst hn8
        clear hlt hi
        go_wp2_with fail
        refine HM.out.mono ?_
        rintro e w1 ⟨A1, m1, c1, A2, c2, E, N, rfl, hE, hB1, hb1⟩
        obtain rfl : E = 3 := hE trivial
        have HO2 := Lib.hid (show One w (w1.alloc (.cells #[.int .i64 3, .slice A2 0 c2, .int .i64 N] 26)) A 8 c (shorts (z1.take i)) from by
          have h1 := HO1.out.r1.below' hb1
          exact ⟨h1.below' ((Below.refl _ _).alloc (Nat.le_refl _) _), HO1.out.le, HO1.out.few, HO1.out.lim, HO1.out.byt, hB1.alloc hB1.size _⟩)
        have HQL := Lib.hid HO1.out.r1.length
        have HB1 := Lib.hid (hB1.alloc hB1.size (.cells #[.int .i64 3, .slice A2 0 c2, .int .i64 N] 26))
        clear hb1 hE hB1 HM HO HO1 kc b0
        go_wp2
        go_loopw [3, 10, 11] (fun s3 s10 s11 wr => ∃ (j k m c : Nat) (A : Option Addr), j ≤ len1 ∧ s11 = .int .i64 (j : Int) ∧ s10 = .int .i64 (k : Int) ∧ s3 = .slice A m c ∧ k + m = 8 ∧ Hid (k = (shorts (z1.take j)).length) ∧ Hid (One w wr A m c ((shorts (z1.take i)).drop k))) (fun _ _ s11 _ => len1 - (intOf s11).toNat)
        case atStart => exact ⟨0, 0, _, _, _, Nat.zero_le _, rfl, rfl, rfl, by omega, Lib.hid (by simp [shorts]), HO2⟩
        case round =>
          clear HO2 HB1
          obtain ⟨j, k, m, c, A, hj, rfl, rfl, rfl, hkm, HK, HO⟩ := hrel
          have HBr := Lib.hid HO.out.bel
          by_cases hlt : j < len1 ∧ k < 8
          · obtain ⟨hlt, hkn⟩ := hlt
            have hj1 : (j : Int) < (len1 : Int) := by omega
            have hj2 : (k : Int) < 8 := by omega
            obtain ⟨b, o, l, A5, c5, rfl, hl, hcell, hrd⟩ := ((HR.out.below HBr.out).fit).at hlt
            have HRD := Lib.hid hrd
            have HLL := Lib.hid hl
            clear hrd hl
            by_cases h16 : 16 < l.length
            · go_wp2
              go_roundw
              case rel => exact ⟨j + 1, k, m, c, A, by omega, by go_num, rfl, rfl, hkm, Lib.hid (by rw [shorts_no HLL.out (by omega)]; exact HK.out), HO⟩
              case measure => simp [intOf]; omega
            · have hat := shorts_at HQL.out HK.out hkn HLL.out (by omega)
              have HLE := HO.out.few
              go_wp2_with fail
              refine (One.pop hQ HO.out hat).mono ?_
              rintro e w6 ⟨A6, c6, A7, c7, rfl, ho, hr7, hb6⟩
              have b6 : Below w6.heap.size w6 (w6.alloc (.cells #[.int .i64 0, .slice A7 l.length c7, .int .i64 0] 26)) := (Below.refl _ _).alloc (Nat.le_refl _) _
              have hs1 := fun q => str_of (c := c7) ((hr7.below b6).drewN q)
              have hs2 := fun q => str_of (c := c5) (((HRD.out.below hb6).fit.below b6).drewN q)
              have hcell6 := ((hb6.cell (p := ⟨b, o + j, none⟩) (World.block_lt_of_cell? _ _ hcell)).trans hcell)
              have hcell7 := (b6.cell (p := ⟨b, o + j, none⟩) (World.block_lt_of_cell? _ _ hcell6)).trans hcell6
              have hs3 : ((strB l).toList == (strB l).toList) = true := by simp
              have HKK := Lib.hid (Blk.new w6 26 #[.int .i64 0, .slice A7 l.length c7, .int .i64 0])
              obtain ⟨x0, x1, x2, _, _, _⟩ := three HKK.out
              have hsub : 8 - (k : Int) = (m : Int) := by omega
              have hwr : IntKind.i64.wrap (m : Int) = (m : Int) := IntWalk.i64_in _ (by omega)
              have hwk : IntKind.i64.wrap ((k : Int) + 1) = (k : Int) + 1 := IntWalk.i64_in _ (by omega)
              have HO7 : Hid (One w (w6.alloc (.cells #[.int .i64 0, .slice A7 l.length c7, .int .i64 0] 26)) A6 (m - 1) c6 ((shorts (z1.take i)).drop (k + 1))) := Lib.hid (by
                rw [← List.drop_drop]
                exact ⟨ho.r1.below' b6, ho.le, ho.few, ho.lim, ho.byt, ho.bel.alloc ho.bel.size _⟩)
              clear ho hr7 hb6 b6 hcell hcell6 HO hat
              go_wp2_with fail
              go_quiet (fail)
              go_wp2
              go_roundw
              case rel => exact ⟨j + 1, k + 1, m - 1, c6, A6, by omega, by go_num, by go_num, rfl, by omega, Lib.hid (by rw [shorts_yes HLL.out (by omega), List.length_append, ← HK.out]; rfl), Lib.hid ⟨HO7.out.r1.below' ⟨rfl, rfl, rfl, Nat.le_refl _, fun _ _ => rfl⟩, HO7.out.le, HO7.out.few, HO7.out.lim, HO7.out.byt, HO7.out.bel.trans ⟨rfl, rfl, rfl, Nat.le_refl _, fun _ _ => rfl⟩⟩⟩
              case measure => simp [intOf]; omega
          · have hkn : k = 8 := by
              have h1 := HK.out
              have h2 := HQL.out
              by_cases hj2 : j < len1
              · omega
              · have h3 := (shorts_pre z1 (show i ≤ j by have := HI.out; omega)).length_le
                omega
            have hm : m = 0 := by omega
            have hf : ¬ 8 < 8 := by omega
            subst hm
            subst hkn
            by_cases hj2 : j < len1
            · have hj3 : (j : Int) < (len1 : Int) := by omega
              clear hlt
              go_wp2_with (go_at_call 10; refine (hA _).mono ?_; rintro e w7 ⟨rfl, hb⟩)
              go_ret
              exact ⟨rfl, HBr.out.trans (hb.mono HBr.out.size)⟩
            · have hj3 : ¬ (j : Int) < (len1 : Int) := by omega
              clear hlt
              go_wp2_with (go_at_call 10; refine (hA _).mono ?_; rintro e w7 ⟨rfl, hb⟩)
              go_ret
              exact ⟨rfl, HBr.out.trans (hb.mono HBr.out.size)⟩
      · have hk1 : ¬ (i : Int) < (len1 : Int) := by omega
        by_cases hn8 : n = 8
        · subst hn8
          clear hlt hi
          go_wp2_with fail
          refine HM.out.mono ?_
          rintro e w1 ⟨A1, m1, c1, A2, c2, E, N, rfl, hE, hB1, hb1⟩
          obtain rfl : E = 3 := hE trivial
          have HO2 := Lib.hid (show One w (w1.alloc (.cells #[.int .i64 3, .slice A2 0 c2, .int .i64 N] 26)) A 8 c (shorts (z1.take i)) from by
            have h1 := HO1.out.r1.below' hb1
            exact ⟨h1.below' ((Below.refl _ _).alloc (Nat.le_refl _) _), HO1.out.le, HO1.out.few, HO1.out.lim, HO1.out.byt, hB1.alloc hB1.size _⟩)
          have HQL := Lib.hid HO1.out.r1.length
          have HB1 := Lib.hid (hB1.alloc hB1.size (.cells #[.int .i64 3, .slice A2 0 c2, .int .i64 N] 26))
          clear hb1 hE hB1 HM HO HO1 kc b0
          go_wp2
          go_loopw [3, 10, 11] (fun s3 s10 s11 wr => ∃ (j k m c : Nat) (A : Option Addr), j ≤ len1 ∧ s11 = .int .i64 (j : Int) ∧ s10 = .int .i64 (k : Int) ∧ s3 = .slice A m c ∧ k + m = 8 ∧ Hid (k = (shorts (z1.take j)).length) ∧ Hid (One w wr A m c ((shorts (z1.take i)).drop k))) (fun _ _ s11 _ => len1 - (intOf s11).toNat)
          case atStart => exact ⟨0, 0, _, _, _, Nat.zero_le _, rfl, rfl, rfl, by omega, Lib.hid (by simp [shorts]), HO2⟩
          case round =>
            clear HO2 HB1
            obtain ⟨j, k, m, c, A, hj, rfl, rfl, rfl, hkm, HK, HO⟩ := hrel
            have HBr := Lib.hid HO.out.bel
            by_cases hlt : j < len1 ∧ k < 8
            · obtain ⟨hlt, hkn⟩ := hlt
              have hj1 : (j : Int) < (len1 : Int) := by omega
              have hj2 : (k : Int) < 8 := by omega
              obtain ⟨b, o, l, A5, c5, rfl, hl, hcell, hrd⟩ := ((HR.out.below HBr.out).fit).at hlt
              have HRD := Lib.hid hrd
              have HLL := Lib.hid hl
              clear hrd hl
              by_cases h16 : 16 < l.length
              · go_wp2
                go_roundw
                case rel => exact ⟨j + 1, k, m, c, A, by omega, by go_num, rfl, rfl, hkm, Lib.hid (by rw [shorts_no HLL.out (by omega)]; exact HK.out), HO⟩
                case measure => simp [intOf]; omega
              · have hat := shorts_at HQL.out HK.out hkn HLL.out (by omega)
                have HLE := HO.out.few
                go_wp2_with fail
                refine (One.pop hQ HO.out hat).mono ?_
                rintro e w6 ⟨A6, c6, A7, c7, rfl, ho, hr7, hb6⟩
                have b6 : Below w6.heap.size w6 (w6.alloc (.cells #[.int .i64 0, .slice A7 l.length c7, .int .i64 0] 26)) := (Below.refl _ _).alloc (Nat.le_refl _) _
                have hs1 := fun q => str_of (c := c7) ((hr7.below b6).drewN q)
                have hs2 := fun q => str_of (c := c5) (((HRD.out.below hb6).fit.below b6).drewN q)
                have hcell6 := ((hb6.cell (p := ⟨b, o + j, none⟩) (World.block_lt_of_cell? _ _ hcell)).trans hcell)
                have hcell7 := (b6.cell (p := ⟨b, o + j, none⟩) (World.block_lt_of_cell? _ _ hcell6)).trans hcell6
                have hs3 : ((strB l).toList == (strB l).toList) = true := by simp
                have HKK := Lib.hid (Blk.new w6 26 #[.int .i64 0, .slice A7 l.length c7, .int .i64 0])
                obtain ⟨x0, x1, x2, _, _, _⟩ := three HKK.out
                have hsub : 8 - (k : Int) = (m : Int) := by omega
                have hwr : IntKind.i64.wrap (m : Int) = (m : Int) := IntWalk.i64_in _ (by omega)
                have hwk : IntKind.i64.wrap ((k : Int) + 1) = (k : Int) + 1 := IntWalk.i64_in _ (by omega)
                have HO7 : Hid (One w (w6.alloc (.cells #[.int .i64 0, .slice A7 l.length c7, .int .i64 0] 26)) A6 (m - 1) c6 ((shorts (z1.take i)).drop (k + 1))) := Lib.hid (by
                  rw [← List.drop_drop]
                  exact ⟨ho.r1.below' b6, ho.le, ho.few, ho.lim, ho.byt, ho.bel.alloc ho.bel.size _⟩)
                clear ho hr7 hb6 b6 hcell hcell6 HO hat
                go_wp2_with fail
                go_quiet (fail)
                go_wp2
                go_roundw
                case rel => exact ⟨j + 1, k + 1, m - 1, c6, A6, by omega, by go_num, by go_num, rfl, by omega, Lib.hid (by rw [shorts_yes HLL.out (by omega), List.length_append, ← HK.out]; rfl), Lib.hid ⟨HO7.out.r1.below' ⟨rfl, rfl, rfl, Nat.le_refl _, fun _ _ => rfl⟩, HO7.out.le, HO7.out.few, HO7.out.lim, HO7.out.byt, HO7.out.bel.trans ⟨rfl, rfl, rfl, Nat.le_refl _, fun _ _ => rfl⟩⟩⟩
                case measure => simp [intOf]; omega
            · have hkn : k = 8 := by
                have h1 := HK.out
                have h2 := HQL.out
                by_cases hj2 : j < len1
                · omega
                · have h3 := (shorts_pre z1 (show i ≤ j by have := HI.out; omega)).length_le
                  omega
              have hm : m = 0 := by omega
              have hf : ¬ 8 < 8 := by omega
              subst hm
              subst hkn
              by_cases hj2 : j < len1
              · have hj3 : (j : Int) < (len1 : Int) := by omega
                clear hlt
                go_wp2_with (go_at_call 10; refine (hA _).mono ?_; rintro e w7 ⟨rfl, hb⟩)
                go_ret
                exact ⟨rfl, HBr.out.trans (hb.mono HBr.out.size)⟩
              · have hj3 : ¬ (j : Int) < (len1 : Int) := by omega
                clear hlt
                go_wp2_with (go_at_call 10; refine (hA _).mono ?_; rintro e w7 ⟨rfl, hb⟩)
                go_ret
                exact ⟨rfl, HBr.out.trans (hb.mono HBr.out.size)⟩
        · have hn9 : ((n : Int) == 8) = false := by rw [beq_eq_false_iff_ne]; omega
          have hn7 := HN8.out
          clear hlt hi
          go_wp2_with fail
          refine HM.out.mono ?_
          rintro e w1 ⟨A1, m1, c1, A2, c2, E, N, rfl, hE, hB1, hb1⟩
          have HO2 := Lib.hid (show One w (w1.alloc (.cells #[.int .i64 E, .slice A2 0 c2, .int .i64 N] 26)) A n c (shorts (z1.take i)) from by
            have h1 := HO1.out.r1.below' hb1
            exact ⟨h1.below' ((Below.refl _ _).alloc (Nat.le_refl _) _), HO1.out.le, HO1.out.few, HO1.out.lim, HO1.out.byt, hB1.alloc hB1.size _⟩)
          have HQL := Lib.hid HO1.out.r1.length
          have HB1 := Lib.hid (hB1.alloc hB1.size (.cells #[.int .i64 E, .slice A2 0 c2, .int .i64 N] 26))
          clear hb1 hE hB1 HM HO HO1 kc b0
          go_wp2
          go_loopw [3, 10, 11] (fun s3 s10 s11 wr => ∃ (j k m c : Nat) (A : Option Addr), j ≤ len1 ∧ s11 = .int .i64 (j : Int) ∧ s10 = .int .i64 (k : Int) ∧ s3 = .slice A m c ∧ k + m = n ∧ Hid (k = (shorts (z1.take j)).length) ∧ Hid (One w wr A m c ((shorts (z1.take i)).drop k))) (fun _ _ s11 _ => len1 - (intOf s11).toNat)
          case atStart => exact ⟨0, 0, _, _, _, Nat.zero_le _, rfl, rfl, rfl, by omega, Lib.hid (by simp [shorts]), HO2⟩
          case round =>
            clear HO2 HB1
            obtain ⟨j, k, m, c, A, hj, rfl, rfl, rfl, hkm, HK, HO⟩ := hrel
            have HBr := Lib.hid HO.out.bel
            by_cases hlt : j < len1 ∧ k < n
            · obtain ⟨hlt, hkn⟩ := hlt
              have hj1 : (j : Int) < (len1 : Int) := by omega
              have hj2 : (k : Int) < (n : Int) := by omega
              obtain ⟨b, o, l, A5, c5, rfl, hl, hcell, hrd⟩ := ((HR.out.below HBr.out).fit).at hlt
              have HRD := Lib.hid hrd
              have HLL := Lib.hid hl
              clear hrd hl
              by_cases h16 : 16 < l.length
              · go_wp2
                go_roundw
                case rel => exact ⟨j + 1, k, m, c, A, by omega, by go_num, rfl, rfl, hkm, Lib.hid (by rw [shorts_no HLL.out (by omega)]; exact HK.out), HO⟩
                case measure => simp [intOf]; omega
              · have hat := shorts_at HQL.out HK.out hkn HLL.out (by omega)
                have HLE := HO.out.few
                go_wp2_with fail
                refine (One.pop hQ HO.out hat).mono ?_
                rintro e w6 ⟨A6, c6, A7, c7, rfl, ho, hr7, hb6⟩
                have b6 : Below w6.heap.size w6 (w6.alloc (.cells #[.int .i64 0, .slice A7 l.length c7, .int .i64 0] 26)) := (Below.refl _ _).alloc (Nat.le_refl _) _
                have hs1 := fun q => str_of (c := c7) ((hr7.below b6).drewN q)
                have hs2 := fun q => str_of (c := c5) (((HRD.out.below hb6).fit.below b6).drewN q)
                have hcell6 := ((hb6.cell (p := ⟨b, o + j, none⟩) (World.block_lt_of_cell? _ _ hcell)).trans hcell)
                have hcell7 := (b6.cell (p := ⟨b, o + j, none⟩) (World.block_lt_of_cell? _ _ hcell6)).trans hcell6
                have hs3 : ((strB l).toList == (strB l).toList) = true := by simp
                have HKK := Lib.hid (Blk.new w6 26 #[.int .i64 0, .slice A7 l.length c7, .int .i64 0])
                obtain ⟨x0, x1, x2, _, _, _⟩ := three HKK.out
                have hsub : (n : Int) - (k : Int) = (m : Int) := by omega
                have hwr : IntKind.i64.wrap (m : Int) = (m : Int) := IntWalk.i64_in _ (by omega)
                have hwk : IntKind.i64.wrap ((k : Int) + 1) = (k : Int) + 1 := IntWalk.i64_in _ (by omega)
                have HO7 : Hid (One w (w6.alloc (.cells #[.int .i64 0, .slice A7 l.length c7, .int .i64 0] 26)) A6 (m - 1) c6 ((shorts (z1.take i)).drop (k + 1))) := Lib.hid (by
                  rw [← List.drop_drop]
                  exact ⟨ho.r1.below' b6, ho.le, ho.few, ho.lim, ho.byt, ho.bel.alloc ho.bel.size _⟩)
                clear ho hr7 hb6 b6 hcell hcell6 HO hat
                go_wp2_with fail
                go_quiet (fail)
                go_wp2
                go_roundw
                case rel => exact ⟨j + 1, k + 1, m - 1, c6, A6, by omega, by go_num, by go_num, rfl, by omega, Lib.hid (by rw [shorts_yes HLL.out (by omega), List.length_append, ← HK.out]; rfl), Lib.hid ⟨HO7.out.r1.below' ⟨rfl, rfl, rfl, Nat.le_refl _, fun _ _ => rfl⟩, HO7.out.le, HO7.out.few, HO7.out.lim, HO7.out.byt, HO7.out.bel.trans ⟨rfl, rfl, rfl, Nat.le_refl _, fun _ _ => rfl⟩⟩⟩
                case measure => simp [intOf]; omega
            · have hkn : k = n := by
                have h1 := HK.out
                have h2 := HQL.out
                by_cases hj2 : j < len1
                · omega
                · have h3 := (shorts_pre z1 (show i ≤ j by have := HI.out; omega)).length_le
                  omega
              have hm : m = 0 := by omega
              have hf : ¬ (n : Int) < (n : Int) := by omega
              subst hm
              subst hkn
              by_cases hj2 : j < len1
              · have hj3 : (j : Int) < (len1 : Int) := by omega
                clear hlt
                go_wp2_with (go_at_call 10; refine (hA _).mono ?_; rintro e w7 ⟨rfl, hb⟩)
                go_ret
                exact ⟨rfl, HBr.out.trans (hb.mono HBr.out.size)⟩
              · have hj3 : ¬ (j : Int) < (len1 : Int) := by omega
                clear hlt
                go_wp2_with (go_at_call 10; refine (hA _).mono ?_; rintro e w7 ⟨rfl, hb⟩)
                go_ret
                exact ⟨rfl, HBr.out.trans (hb.mono HBr.out.size)⟩
end Go.Proofs.Ytogohlljkpchmaa
