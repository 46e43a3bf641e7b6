/- DiskPrefixWalk -/
import Derived.Test.YtlfkgpllleogoaaDK29
import Derived.BigQuiet
namespace Go.Proofs.Ytlfkgpllleogoaa
open Go.RowKit
set_option linter.unusedVariables false
theorem disk_set_lt {l : List Nat} (hl : ∀ x ∈ l, x < 256) (q : Nat) {y : Nat} (hy : y < 256) : ∀ x ∈ l.set q y, x < 256 := by
  intro x hx
  rcases List.mem_or_eq_of_mem_set hx with h | h
  · exact hl x h
  · omega
theorem Dk.read_left (a : List Nat) : Dk.read a [] = Dk.parse a := by
  unfold Dk.read
  rw [Dk.parse_nil]
  unfold Dk.pick
  cases Dk.parse a <;> rfl
theorem Dk.read_right (b : List Nat) : Dk.read [] b = Dk.parse b := by
  unfold Dk.read
  rw [Dk.parse_nil]
  unfold Dk.pick
  cases Dk.parse b <;> rfl
/-- what is known of a slot -/
structure Dk.SlotOf (n i p q : Int) (S : List Nat) : Prop where
  is : Dk.slot n i p q = S
  lt : ∀ x ∈ S, x < 256
  len : 8 ≤ S.length ∧ S.length ≤ 40
  read : ∃ x, Dk.read [] S = some x ∧ recC (some x) = #[.int .i64 i, .int .i64 p, .int .i64 q]
  take : ∀ k, k < S.length → Dk.read (S.take k) [] = none
  bit : ∀ k, k < S.length → ∀ y, y < 256 → y ≠ 0 → Dk.read (S.set k (S.getD k 0 ^^^ y)) [] = none
  more : Dk.read (S ++ [0]) [] = none
theorem Dk.slotOf {n i p q : Int} (hi : 0 ≤ i ∧ i < 16777216) (hp : 0 ≤ p ∧ p < 16777216) (hq : 0 ≤ q ∧ q < 16777216) : ∃ S, Dk.SlotOf n i p q S := by
  have hok := Dk.rc_ok n i p q
  refine ⟨_, rfl, Dk.slotR_lt hok, Dk.slotR_len _, ⟨_, (Dk.read_right _).trans (Dk.parse_slot hok), ?_⟩, fun k hk => (Dk.read_left _).trans (Dk.parse_take hok hk), fun k hk y hy h0 => (Dk.read_left _).trans (Dk.parse_bit hok k hk y hy h0), (Dk.read_left _).trans (Dk.parse_more hok 0 [])⟩
  show #[Value.int .i64 ((Dk.held i : Nat) : Int), Value.int .i64 ((Dk.held p : Nat) : Int), Value.int .i64 ((Dk.held q : Nat) : Int)] = _
  rw [Dk.held_id hi.1 (by omega), Dk.held_id hp.1 (by omega), Dk.held_id hq.1 (by omega)]
set_option maxHeartbeats 4000000 in
set_option maxRecDepth 100000 in
theorem diskPrefix_raw (w : World) (n inc prom inst at_ : Int) : Calls Try.prog 9 #[.int .i64 n, .int .i64 inc, .int .i64 prom, .int .i64 inst, .int .i64 at_] w fun e w' => e = .returned (.bool true) ∧ Below w.heap.size w w' := by
  obtain ⟨S, hS⟩ := Dk.slotOf (n := n % 65536) (i := inc % 16777216) (p := prom % 16777216) (q := inst % 16777216) (by omega) (by omega) (by omega)
  have HS := Lib.hid hS
  obtain ⟨X, hX, hXC⟩ := hS.read
  have HX := Lib.hid hX
  have HXC := Lib.hid hXC
  have hlen := hS.len
  have affff := and_ffff
  have a7 := and_7
  have a24 : ∀ n, bits .and .i64 n 16777215 = n % 16777216 := fun n => by simpa using and_mask n 24 (by omega)
  obtain ⟨i9, hi1, hi2, hi3, hi4⟩ := info_parts byteT.info
  have HI1 := Lib.hid hi1
  clear hS hX hXC hi1 hi2 hi3 hi4
  go_enter Try.func9, Try.ntmps9
  go_upto_region 2 with (first
    | (refine wpList_store_row rfl 46 (.tmp 11) (.tmp 30) rfl w.heap.size #[.int .i64 (inc % 16777216), .int .i64 (prom % 16777216), .int .i64 (inst % 16777216)] rfl rfl 46 #[.int .i64 0, .int .i64 0, .int .i64 0] (Blk.new w 46 #[.int .i64 0, .int .i64 0, .int .i64 0]) (by kernel_rfl) rfl (by kernel_rfl) ?_)
    | fail)
  obtain ⟨g11, wa, hgE, hwE, hbE, hkE⟩ := boxed w #[.int .i64 0, .int .i64 0, .int .i64 0] #[.int .i64 (inc % 16777216), .int .i64 (prom % 16777216), .int .i64 (inst % 16777216)] 46
  rw [hgE, hwE]
  have HBa := Lib.hid hbE
  have HK11 := Lib.hid hkE
  clear hgE hwE hbE hkE
  go_upto_region 3 with (first
    | (refine wpList_load_row rfl  46 (.tmp 11) rfl g11 rfl 46 #[.int .i64 (inc % 16777216), .int .i64 (prom % 16777216), .int .i64 (inst % 16777216)] (0, 0) _ HK11.out Try.underlying46 rfl (by kernel_rfl) ?_)
    | (go_at_call 29; refine (dslot (W := w) HS.out.is HBa.out).mono ?_; rintro en w1 ⟨A, c, rfl, ho, hB, hb⟩
       have HO := Lib.hid ho
       have HB1 := Lib.hid hB
       have HK11 := Lib.hid (HK11.out.below hb)
       clear ho hB hb)
    | fail)
  clear HBa
  go_upto_region 4 with (first
    | (go_at_call 27; refine (dread (W := w) HX.out ⟨fun x hx => (by cases hx), by simp⟩ ⟨HS.out.lt, by omega⟩ (Nat.le_refl 0) (own_cap HO.out).1 (Rd.none_ _ w1.heap.size none) (Rd.own_ HO.out) HB1.out).mono ?_; rintro en w2 ⟨he, hB, hb⟩
       have he2 : en = .returned (.tuple #[.agg #[.int .i64 (inc % 16777216), .int .i64 (prom % 16777216), .int .i64 (inst % 16777216)], .bool true]) := by rw [he]; rw [HXC.out]; rfl
       clear he
       subst he2
       have HB2 := Lib.hid hB
       have HBB := Lib.hid hb
       clear hB hb)
    | (refine wpList_store_row rfl 46 (.tmp 13) (.tmp 39) rfl w2.heap.size #[.int .i64 (inc % 16777216), .int .i64 (prom % 16777216), .int .i64 (inst % 16777216)] rfl rfl 46 #[.int .i64 0, .int .i64 0, .int .i64 0] (Blk.new w2 46 #[.int .i64 0, .int .i64 0, .int .i64 0]) (by kernel_rfl) rfl (by kernel_rfl) ?_)
    | fail)
  obtain ⟨g13, w3, hgE, hwE, hbE, hkE⟩ := boxed w2 #[.int .i64 0, .int .i64 0, .int .i64 0] #[.int .i64 (inc % 16777216), .int .i64 (prom % 16777216), .int .i64 (inst % 16777216)] 46
  rw [hgE, hwE]
  have HBc := Lib.hid hbE
  have HK13 := Lib.hid hkE
  clear hgE hwE hbE hkE
  have hb3 : Below w1.heap.size w1 w3 := HBB.out.trans (HBc.out.mono HBB.out.size)
  have HO := Lib.hid (own_below HO.out hb3)
  have HK11 := Lib.hid (HK11.out.below hb3)
  have HB3 := Lib.hid (HB2.out.trans (HBc.out.mono HB2.out.size))
  clear hb3 HBB HBc HB2 HB1
  go_upto_region 6 with (first
    | (refine wpList_load_rowV (by first | rfl | kernel_rfl) 46 (.tmp 13) rfl g13 rfl 46 #[.int .i64 (inc % 16777216), .int .i64 (prom % 16777216), .int .i64 (inst % 16777216)] (0, 0) _ HK13.out Try.underlying46 rfl (by kernel_rfl) ?_)
    | (refine wpList_load_rowV (by first | rfl | kernel_rfl) 46 (.tmp 11) rfl g11 rfl 46 #[.int .i64 (inc % 16777216), .int .i64 (prom % 16777216), .int .i64 (inst % 16777216)] (0, 0) _ HK11.out Try.underlying46 rfl (by kernel_rfl) ?_)
    | fail)
  clear HK11 HK13
  go_wp2_with fail
  go_loopw [15, 16, 17] (fun s15 _ _ wr => ∃ k : Nat, k ≤ S.length ∧ s15 = .int .i64 (k : Int) ∧ Hid (OwnB w wr A S.length c S) ∧ Hid (Below w.heap.size w wr)) (fun s15 _ _ _ => S.length - (intOf s15).toNat)
  case atStart => exact ⟨0, Nat.zero_le _, rfl, HO, HB3⟩
  case round =>
    clear HO HB3
    obtain ⟨k, hk, rfl, HO, HB⟩ := hrel
    have hcap := (own_cap HO.out).1
    by_cases hlt : k < S.length
    · have hs : ∀ w : World, (Instr.slice 22 (.slice A S.length c) none (some (.int .i64 (k : Int))) none).run Try.prog w = .ok (.slice A k c) w := fun w => run_slice_to (P := Try.prog) (t := 22) byteT.under HI1.out A S.length c k (by omega) w
      have HRD : Hid (Rd wr wr.heap.size A k (bv (S.take k))) := Lib.hid (by rw [bv_take]; exact (Rd.own_ HO.out).take (by omega))
      have CR : Hid (Calls Try.prog 27 #[.agg #[.slice A k c, .slice none 0 0]] wr (GotRc w wr none)) := Lib.hid (dread (HS.out.take k hlt) ⟨fun x hx => HS.out.lt x (List.mem_of_mem_take hx), by rw [List.length_take]; omega⟩ ⟨fun x hx => (by cases hx), by simp⟩ (by omega) (Nat.le_refl 0) HRD.out (Rd.none_ _ wr.heap.size none) HB.out)
      go_upto_region 10 with (first
        | (go_at_call 27; refine (CR.out).mono ?_; rintro en w4 ⟨he, hB, hb⟩
           have he2 : en = .returned (.tuple #[.agg #[.int .i64 0, .int .i64 0, .int .i64 0], .bool false]) := by rw [he]; rfl
           clear he
           subst he2
           have HB4 := Lib.hid hB
           have HBB := Lib.hid hb
           clear hB hb)
        | (refine wpList_store_row rfl 46 (.tmp 16) (.tmp 60) rfl w4.heap.size #[.int .i64 0, .int .i64 0, .int .i64 0] rfl rfl 46 #[.int .i64 0, .int .i64 0, .int .i64 0] (Blk.new w4 46 #[.int .i64 0, .int .i64 0, .int .i64 0]) (by kernel_rfl) rfl (by kernel_rfl) ?_)
        | fail)
      obtain ⟨gx, w5, hgE, hwE, hbE, hkE⟩ := boxed w4 #[.int .i64 0, .int .i64 0, .int .i64 0] #[.int .i64 0, .int .i64 0, .int .i64 0] 46
      rw [hgE, hwE]
      have HBc := Lib.hid hbE
      have HKx := Lib.hid hkE
      clear hgE hwE hbE hkE
      have hb3 : Below wr.heap.size wr w5 := HBB.out.trans (HBc.out.mono HBB.out.size)
      have HO := Lib.hid (own_below HO.out hb3)
      have HB5 := Lib.hid (HB4.out.trans (HBc.out.mono HB4.out.size))
      clear hb3 HBB HBc HB4 HKx hs CR HRD
      go_wp2_with fail
      go_roundw
      case rel => exact ⟨k + 1, by omega, by go_num, HO, HB5⟩
      case measure => simp [intOf]; omega
    · have hK : ∃ K : Nat, at_ % 65536 % (8 * (S.length : Int)) = (K : Int) ∧ K < 8 * S.length := by
        have h1 := Int.emod_nonneg (at_ % 65536) (show (8 * (S.length : Int)) ≠ 0 by omega)
        have h2 := Int.emod_lt_of_pos (at_ % 65536) (show 0 < 8 * (S.length : Int) by omega)
        exact ⟨(at_ % 65536 % (8 * (S.length : Int))).toNat, by omega, by omega⟩
      obtain ⟨K, hK1, hK2⟩ := hK
      have hrem : (at_ % 65536).tmod (8 * (S.length : Int)) = (K : Int) := by rw [Int.tmod_eq_emod_of_nonneg (by omega)]; exact hK1
      obtain ⟨q, r, hq, hr, hq2, hr2⟩ : ∃ q r : Nat, (K : Int) / 8 = (q : Int) ∧ bits .and .i64 (K : Int) 7 = (r : Int) ∧ q < S.length ∧ r < 8 :=
        ⟨K / 8, K % 8, by omega, by rw [and_7]; omega, by omega, by omega⟩
      have hr8 : 2 ^ r < 256 := by have h2 := Nat.pow_lt_pow_right (a := 2) (show 1 < 2 by omega) hr2; have e8 : (2 : Nat) ^ 8 = 256 := rfl; omega
      have hLq : S[q]?.getD 0 < 256 := by rw [List.getElem?_eq_getElem (by omega)]; exact HS.out.lt _ (List.getElem_mem (by omega))
      have hNO : Dk.read (S.set q (S[q]?.getD 0 ^^^ 2 ^ r)) [] = none := by
        have e := HS.out.bit q hq2 (2 ^ r) hr8 (by have := Nat.two_pow_pos r; omega)
        rw [List.getD_eq_getElem?_getD] at e
        exact e
      have hyy : S.getD q 0 = S[q]?.getD 0 := List.getD_eq_getElem?_getD
      obtain ⟨y, hy⟩ : ∃ y, S[q]?.getD 0 = y := ⟨_, rfl⟩
      rw [hy] at hLq hNO hyy
      have HNO := Lib.hid hNO
      have HYY := Lib.hid hyy
      clear hNO hy hyy a7
      have hx : bits .xor .u8 ((y : Nat) : Int) (2 ^ r % 256) = ((y ^^^ 2 ^ r : Nat) : Int) := by
        have e : ((2 : Int) ^ r % 256) = ((2 ^ r : Nat) : Int) := by
          have e1 : ((2 ^ r : Nat) : Int) = (2 : Int) ^ r := Int.natCast_pow 2 r
          rw [← e1]; exact Int.emod_eq_of_lt (Int.natCast_nonneg _) (Int.ofNat_lt.2 hr8)
        rw [e]; exact u8_xor_nat _ _ hLq hr8
      have HSL := Lib.hid (disk_set_lt HS.out.lt q (Crc.xor_lt8 hLq hr8))
      have HLQ := Lib.hid hLq
      have HRR := Lib.hid (Rd.own_ HO.out)
      clear hLq
      go_upto_region 13 with (first
        | (at_builtin
           refine wpList_append_bytes (W := wr) byteT (.tmp 63) (.tmp 64) rfl (by rfl) rfl (own_empty (Below.refl _ _) 5) rfl (HRR.out.alloc (Nat.le_refl _) _) (by omega) ((Below.refl _ _).alloc (Nat.le_refl _) _) ?_
           intro A1 c1 w6a hown1 hr1 hB1
           simp only [Nat.zero_add, List.nil_append] at hown1 hr1
           obtain ⟨g1, rfl, hg1, hg2⟩ := own_addr hown1 (by omega)
           have HO1 := Lib.hid hown1
           have HBA := Lib.hid hB1
           clear hown1 hr1 hB1)
        | fail)
      have hc1 := own_byte HO1.out hq2
      have hf1 := HO1.out.frozenAt q
      rw [HYY.out] at hc1
      go_upto_region 15 with fail
      have hown2 := own_set HO1.out q (y ^^^ 2 ^ r)
      have hB2 := HBA.out.setCell (p := ⟨g1, q, none⟩) hg1 (.int .u8 ((y ^^^ 2 ^ r : Nat) : Int))
      clear hc1 hf1 hx
      generalize w6a.setCell ⟨g1, q, none⟩ (.int .u8 ((y ^^^ 2 ^ r : Nat) : Int)) = w7 at hown2 hB2 ⊢
      have HB7 := Lib.hid (HB.out.trans (hB2.mono HB.out.size))
      have CR : Hid (Calls Try.prog 27 #[.agg #[.slice (some ⟨g1, 0, none⟩) S.length c1, .slice none 0 0]] w7 (GotRc w w7 none)) := Lib.hid (dread HNO.out ⟨HSL.out, by rw [List.length_set]; omega⟩ ⟨fun x hx => (by cases hx), by simp⟩ (own_cap hown2).1 (Nat.le_refl 0) (Rd.own_ hown2) (Rd.none_ _ w7.heap.size none) HB7.out)
      have HO := Lib.hid (own_below HO.out hB2)
      clear hown2 hB2 HBA HO1 HRR
      go_upto_region 16 with (first
        | (go_at_call 27; refine (CR.out).mono ?_; rintro en w8 ⟨he, hB, hb⟩
           have he2 : en = .returned (.tuple #[.agg #[.int .i64 0, .int .i64 0, .int .i64 0], .bool false]) := by rw [he]; rfl
           clear he
           subst he2
           have HB8 := Lib.hid hB
           have HBB := Lib.hid hb
           clear hB hb)
        | (refine wpList_store_row rfl 46 (.tmp 20) (.tmp 90) rfl w8.heap.size #[.int .i64 0, .int .i64 0, .int .i64 0] rfl rfl 46 #[.int .i64 0, .int .i64 0, .int .i64 0] (Blk.new w8 46 #[.int .i64 0, .int .i64 0, .int .i64 0]) (by kernel_rfl) rfl (by kernel_rfl) ?_)
        | fail)
      obtain ⟨gy, w9, hgE, hwE, hbE, hkE⟩ := boxed w8 #[.int .i64 0, .int .i64 0, .int .i64 0] #[.int .i64 0, .int .i64 0, .int .i64 0] 46
      rw [hgE, hwE]
      have HBc := Lib.hid hbE
      have HKy := Lib.hid hkE
      clear hgE hwE hbE hkE
      have hb9 : Below w7.heap.size w7 w9 := HBB.out.trans (HBc.out.mono HBB.out.size)
      have HO := Lib.hid (own_below HO.out hb9)
      have HB9 := Lib.hid (HB8.out.trans (HBc.out.mono HB8.out.size))
      have HRR := Lib.hid (Rd.own_ HO.out)
      have HLM : Hid ((S ++ [0]).length = S.length + 1) := Lib.hid (by simp)
      clear hb9 HBB HBc HB8 HB7 HKy CR
      go_upto_region 17 with (first
        | (at_builtin
           refine wpList_append_bytes (W := w9) byteT (.tmp 93) (.tmp 94) rfl (by rfl) rfl (own_empty (Below.refl _ _) 5) rfl (HRR.out.alloc (Nat.le_refl _) _) (by omega) ((Below.refl _ _).alloc (Nat.le_refl _) _) ?_
           intro A1 c1 wb hown1 hr1 hB1
           simp only [Nat.zero_add, List.nil_append] at hown1 hr1
           have HO1 := Lib.hid hown1
           have HBb := Lib.hid hB1
           clear hown1 hr1 hB1)
        | (at_builtin
           refine wpList_append_bytes (W := w9) byteT (.tmp 95) (.tmp 96) rfl (by rfl) rfl (own_below HO1.out ((Below.refl _ _).alloc (Nat.le_refl _) _)) rfl (Rd.one wb 0 5) (by omega) (HBb.out.alloc HBb.out.size _) ?_
           intro A3 c3 wc hown1 hr1 hB1
           have HO3 : Hid (OwnB w9 wc A3 (S.length + 1) c3 (S ++ [0])) := Lib.hid hown1
           have HBc := Lib.hid hB1
           clear hown1 hr1 hB1)
        | (go_at_call 27; refine (dread (W := w) HS.out.more ⟨fun x hx => (by rcases List.mem_append.1 hx with h | h; exact HS.out.lt x h; simp at h; omega), by rw [HLM.out]; omega⟩ ⟨fun x hx => (by cases hx), by simp⟩ (own_cap HO3.out).1 (Nat.le_refl 0) (Rd.own_ HO3.out) (Rd.none_ _ wc.heap.size none) (HB9.out.trans (HBc.out.mono HB9.out.size))).mono ?_; rintro en wd ⟨he, hB, hb⟩
           have he2 : en = .returned (.tuple #[.agg #[.int .i64 0, .int .i64 0, .int .i64 0], .bool false]) := by rw [he]; rfl
           clear he
           subst he2
           have HBd := Lib.hid hB
           have HBB := Lib.hid hb
           clear hB hb)
        | (refine wpList_store_row rfl 46 (.tmp 22) (.tmp 100) rfl wd.heap.size #[.int .i64 0, .int .i64 0, .int .i64 0] rfl rfl 46 #[.int .i64 0, .int .i64 0, .int .i64 0] (Blk.new wd 46 #[.int .i64 0, .int .i64 0, .int .i64 0]) (by kernel_rfl) rfl (by kernel_rfl) ?_)
        | fail)
      obtain ⟨gz, we, hgE, hwE, hbE, hkE⟩ := boxed wd #[.int .i64 0, .int .i64 0, .int .i64 0] #[.int .i64 0, .int .i64 0, .int .i64 0] 46
      rw [hgE, hwE]
      have HBe := Lib.hid hbE
      have HKz := Lib.hid hkE
      clear hgE hwE hbE hkE
      have HBe := Lib.hid (HBd.out.trans (HBe.out.mono HBd.out.size))
      go_wp2_with (first
        | (go_at_call 28; refine (diskAwake _).mono ?_; rintro e wz ⟨rfl, hBz⟩
           have HBz := Lib.hid (HBe.out.trans (hBz.mono HBe.out.size))
           clear hBz)
        | fail)
      go_ret
      exact ⟨rfl, HBz.out⟩
theorem diskPrefix_walk (a0 : Int) (a1 : Int) (a2 : Int) (a3 : Int) (a4 : Int) (w : World) (w0 : (Lit.int .i64 a0).wf = true) (w1 : (Lit.int .i64 a1).wf = true) (w2 : (Lit.int .i64 a2).wf = true) (w3 : (Lit.int .i64 a3).wf = true) (w4 : (Lit.int .i64 a4).wf = true) : Calls Try.prog 9 #[.int .i64 a0, .int .i64 a1, .int .i64 a2, .int .i64 a3, .int .i64 a4] w fun e w' => e = .returned (.bool true) ∧ Below w.heap.size w w' := diskPrefix_raw w a0 a1 a2 a3 a4
end Go.Proofs.Ytlfkgpllleogoaa

