/- CrcsTurned: the walk. -/
import Derived.Test.YtgijpmhlkmcpdaaCrcAwake
import Derived.Test.YtgijpmhlkmcpdaaCrcBurst
import Derived.OwnWalk
import Derived.WalkSpells
import Derived.WalkLawsBesides
namespace Go.Proofs.Ytgijpmhlkmcpdaa
open Go.RowKit
set_option linter.unusedVariables false

theorem i64_and_7 (n : Int) : bits .and .i64 n 7 = n % 8 := by
  show IntKind.i64.wrap ((BitVec.ofInt 64 n &&& BitVec.ofInt 64 7).toNat : Int) = _
  have e : (BitVec.ofInt 64 n &&& BitVec.ofInt 64 7).toNat = (n % 8).toNat := by
    rw [BitVec.toNat_and]
    have h1 : (BitVec.ofInt 64 7).toNat = 2 ^ 3 - 1 := by decide
    rw [h1, Nat.and_two_pow_sub_one_eq_mod, BitVec.toNat_ofInt]
    omega
  rw [e, IntKind.wrap_i64]
  omega
theorem set_lt {l : List Nat} (hl : ∀ x ∈ l, x < 256) (q : Nat) {y : Nat} (hy : y < 256) : ∀ x ∈ l.set q y, x < 256 := by
  intro x hx
  rcases List.mem_or_eq_of_mem_set hx with h | h
  · exact hl x h
  · omega
theorem nat_ne (n : Nat) : ((n : Int) != 0) = (n != 0) := by
  cases n with
  | zero => rfl
  | succ n => rw [bne_iff_ne.2 (by omega), bne_iff_ne.2 (by omega)]
set_option maxHeartbeats 1000000 in
theorem crcsTurned_walk (a0 : Option Addr) (len0 cap0 : Nat) (z0 : List Int) (a1 : Int) (a2 : Int) (w : World) (w0 : IsRow .u8 w a0 len0 cap0 z0) (w1 : (Lit.int .i64 a1).wf = true) (w2 : (Lit.int .i64 a2).wf = true) :
    Calls Try.prog 6 #[.slice a0 len0 cap0, .int .i64 a1, .int .i64 a2] w fun e w' => e = .returned (.bool true) ∧ Below w.heap.size w w' := by
  obtain ⟨l, hl, h, hle, hcap⟩ := w0.rd
  have hn : len0 ≤ maxLen := Nat.le_trans hle hcap
  have hn' : len0 ≤ 9223372036854775807 := hn
  have e1 := i64_and_65535 a1
  clear w1 w2 w0 hcap
  by_cases hlt : 300 < len0
  · clear e1
    go_enter Try.func6, Try.ntmps6
    go_wp2_with (go_at_call 9; refine (awake_any _).mono ?_; rintro e w1 ⟨rfl, hb⟩)
    go_ret
    exact ⟨rfl, hb⟩
  by_cases h0 : len0 = 0
  · subst h0
    clear e1
    go_enter Try.func6, Try.ntmps6
    go_wp2_with (go_at_call 9; refine (awake_any _).mono ?_; rintro e w1 ⟨rfl, hb⟩)
    go_ret
    exact ⟨rfl, hb⟩
  have H := Lib.hid h
  clear h
  have hz : ((len0 : Int) == 0) = false := beq_eq_false_iff_ne.2 (by omega)
  obtain ⟨k, hk, hk2⟩ : ∃ k : Nat, (a1 % 65536).tmod (8 * (len0 : Int)) = (k : Int) ∧ k < 8 * len0 := by
    rw [Int.tmod_eq_emod_of_nonneg (by omega)]
    have h1 := Int.emod_nonneg (a1 % 65536) (show (8 * (len0 : Int)) ≠ 0 by omega)
    have h2 := Int.emod_lt_of_pos (a1 % 65536) (show (0 : Int) < 8 * (len0 : Int) by omega)
    exact ⟨((a1 % 65536) % (8 * (len0 : Int))).toNat, by omega, by omega⟩
  obtain ⟨q, r, hq, hr, hq2, hr2⟩ : ∃ q r : Nat, (k : Int) / 8 = (q : Int) ∧ bits .and .i64 (k : Int) 7 = (r : Int) ∧ q < len0 ∧ r < 8 :=
    ⟨k / 8, k % 8, by omega, by rw [i64_and_7]; omega, by omega, by omega⟩
  have hB0 : Below w.heap.size w w := Below.refl _ _
  have hlen := H.out.length
  have hr8 : 2 ^ r < 256 := by have h2 := Nat.pow_lt_pow_right (a := 2) (show 1 < 2 by omega) hr2; have e8 : (2 : Nat) ^ 8 = 256 := rfl; omega
  have hLq : l[q]?.getD 0 < 256 := by rw [List.getElem?_eq_getElem (by omega)]; exact hl _ (List.getElem_mem (by omega))
  have hx : bits .xor .u8 ((l[q]?.getD 0 : Nat) : Int) (2 ^ r % 256) = ((l[q]?.getD 0 ^^^ 2 ^ r : Nat) : Int) := by
    have e : ((2 : Int) ^ r % 256) = ((2 ^ r : Nat) : Int) := by
      have e1 : ((2 ^ r : Nat) : Int) = (2 : Int) ^ r := Int.natCast_pow 2 r
      rw [← e1]; exact Int.emod_eq_of_lt (Int.natCast_nonneg _) (Int.ofNat_lt.2 hr8)
    rw [e]; exact u8_xor_nat _ _ hLq hr8
  have hne : (((Crc.sum (l.set q (l[q]?.getD 0 ^^^ 2 ^ r)) : Nat) : Int) == ((Crc.sum l : Nat) : Int)) = false := by
    have := Crc.one_bit l q (by omega) (2 ^ r) hr8 (by have := Nat.two_pow_pos r; omega)
    rw [List.getD_eq_getElem?_getD] at this
    exact beq_eq_false_iff_ne.2 (by omega)
  have HL := Lib.hid (set_lt hl q (Crc.xor_lt8 hLq hr8))
  obtain ⟨T, hT, hT8⟩ : ∃ T : Nat → Nat, (∀ j, a2 / 2 ^ (8 * j) % 256 = (T j : Int)) ∧ ∀ j, T j < 256 :=
    ⟨fun j => (a2 / 2 ^ (8 * j) % 256).toNat, fun j => by show _ = (((a2 / 2 ^ (8 * j) % 256).toNat : Nat) : Int); omega, fun j => by show (a2 / 2 ^ (8 * j) % 256).toNat < 256; omega⟩
  have HT := Lib.hid hT
  have HT8 := Lib.hid hT8
  have hlenh := Lib.hid hlen
  clear hT hT8 hlen
  go_enter Try.func6, Try.ntmps6
  go_wp2_with (first
    | (at_builtin
       refine wpList_append_bytes (W := w) byteT (.tmp 22) (.tmp 23) rfl (by rfl) rfl (own_empty hB0 5) rfl (H.out.alloc (Nat.le_refl _) _) (by omega) (hB0.alloc (Nat.le_refl _) _) ?_
       intro A1 c1 w1 hown1 hr1 hB1
       simp only [Nat.zero_add, List.nil_append] at hown1 hr1
       obtain ⟨g1, rfl, hg1, hg2⟩ := own_addr hown1 (by omega)
       have hc1 := own_byte hown1 hq2
       have hf1 := hown1.frozenAt q)
    | fail)
  obtain ⟨W2, hW2⟩ : ∃ W, W = w1.setCell ⟨g1, q, none⟩ (.int .u8 ((l[q]?.getD 0 ^^^ 2 ^ r : Nat) : Int)) := ⟨_, rfl⟩
  have hown2 := own_set hown1 q (l[q]?.getD 0 ^^^ 2 ^ r)
  have hB2 := hB1.setCell (p := ⟨g1, q, none⟩) hg1 (.int .u8 ((l[q]?.getD 0 ^^^ 2 ^ r : Nat) : Int))
  rw [← hW2] at hown2 hB2 ⊢
  clear hW2 hc1 hf1 hown1 hr1 hB1
  refine (sum_any (l.set q (l[q]?.getD 0 ^^^ 2 ^ r)) HL.out _ _ _ _ hn _ (Rd.own_ hown2)).mono ?_
  rintro e w1' ⟨rfl, rfl⟩
  go_wp2_with fail
  refine (sum_any l hl _ _ _ _ hn _ (H.out.below hB2)).mono ?_
  rintro e w1' ⟨rfl, rfl⟩
  clear hown2 hx
  go_wp2_with (first
    | (at_builtin
       refine wpList_append_bytes (W := w) byteT (.tmp 50) (.tmp 51) rfl (by rfl) rfl (own_empty hB2 5) rfl ((H.out.below hB2).alloc hB2.size _) (by omega) (hB2.alloc hB2.size _) ?_
       intro A3 c3 w3 hown3 hr3 hB3
       simp only [Nat.zero_add, List.nil_append] at hown3 hr3
       obtain ⟨g3, rfl, hg3, hg4⟩ := own_addr hown3 (by omega))
    | fail)
  clear hne
  go_loopw [10, 11, 12] (fun s i t wr => ∃ j : Nat, j ≤ 4 ∧ i = .int .i64 j ∧ s = .bool (Crc.tto len0 q T j) ∧ wr.ownsRow w.heap.size 5 1 (.slice (some ⟨g3, 0, none⟩) len0 c3) len0 (bv (Crc.yto l q T j)) ∧ Below w.heap.size w wr)
    (fun _ i _ _ => 4 - (intOf i).toNat)
  case atStart => exact ⟨0, by omega, rfl, rfl, hown3, hB3⟩
  case round =>
    obtain ⟨j, hj, rfl, rfl, hown4, hB4⟩ := hrel
    by_cases hlt : j < 4
    · have hTj := HT.out j
      have hyl := Crc.yto_length l q T j
      have hlen := hlenh.out
      by_cases hin : q + j < len0
      · have hc4 := own_byte hown4 hin
        have hf4 := hown4.frozenAt (q + j)
        have hown5 := own_set hown4 (q + j) ((Crc.yto l q T j)[q + j]?.getD 0 ^^^ T j)
        have hB5 := fun u => hB4.setCell (p := ⟨g3, q + j, none⟩) hg3 u
        have hxj : bits .xor .u8 (((Crc.yto l q T j)[q + j]?.getD 0 : Nat) : Int) ((T j : Nat) : Int) = (((Crc.yto l q T j)[q + j]?.getD 0 ^^^ T j : Nat) : Int) := by
          refine u8_xor_nat _ _ ?_ (HT8.out j)
          rw [List.getElem?_eq_getElem (by omega)]
          exact Crc.yto_lt l hl q T HT8.out j _ (List.getElem_mem (by omega))
        have HY := Lib.hid (show Crc.yto l q T (j + 1) = (Crc.yto l q T j).set (q + j) ((Crc.yto l q T j)[q + j]?.getD 0 ^^^ T j) by
          rw [Crc.yto, if_pos (by omega), List.getD_eq_getElem?_getD])
        have HTT := Lib.hid (show Crc.tto len0 q T (j + 1) = (Crc.tto len0 q T j || (T j != 0)) by rw [Crc.tto, if_pos hin])
        have H5 := Lib.hid hown5
        have HB5 := Lib.hid hB5
        clear hyl hown5 hB5 hlen
        cases htt : Crc.tto len0 q T j
        · go_wp2
          all_goals
            go_roundw
            case rel => exact ⟨j + 1, by omega, by go_num, by rw [HTT.out, htt, Bool.false_or]; exact congrArg Value.bool (nat_ne (T j)), by rw [HY.out]; exact H5.out, HB5.out _⟩
            case measure => simp [intOf]; omega
        · go_wp2
          all_goals
            go_roundw
            case rel => exact ⟨j + 1, by omega, by go_num, by rw [HTT.out, htt, Bool.true_or], by rw [HY.out]; exact H5.out, HB5.out _⟩
            case measure => simp [intOf]; omega
      · have HY := Lib.hid (show Crc.yto l q T (j + 1) = Crc.yto l q T j by rw [Crc.yto, if_neg (by omega)])
        have HTT := Lib.hid (show Crc.tto len0 q T (j + 1) = Crc.tto len0 q T j by rw [Crc.tto, if_neg hin])
        clear hyl hlen
        go_wp2
        all_goals
          go_roundw
          case rel => exact ⟨j + 1, by omega, by go_num, by rw [HTT.out], by rw [HY.out]; exact hown4, hB4⟩
          case measure => simp [intOf]; omega
    · obtain rfl : j = 4 := by omega
      obtain ⟨d, hd1, hd2⟩ : ∃ d : Bool, (((Crc.sum (Crc.yto l q T 4) : Nat) : Int) == ((Crc.sum l : Nat) : Int)) = !d ∧ Crc.tto len0 q T 4 = d := by
        have hlen := hlenh.out
        have hh := Crc.turned l q (by omega) T HT8.out
        have e : l.length = len0 := hlenh.out
        rw [e] at hh
        cases hd : Crc.tto len0 q T 4 with
        | true => exact ⟨true, beq_eq_false_iff_ne.2 (by have := mt hh.1 (by rw [hd]; decide); omega), rfl⟩
        | false => exact ⟨false, by rw [hh.2 hd]; exact beq_self_eq_true _, rfl⟩
      have HYL := Lib.hid (Crc.yto_lt l hl q T HT8.out 4)
      have hr4 := Rd.own_ hown4
      clear hk
      cases d
      all_goals go_wp2_with fail
      all_goals refine (sum_any (Crc.yto l q T 4) HYL.out _ _ _ _ hn _ hr4).mono ?_
      all_goals rintro e w1' ⟨rfl, rfl⟩
      all_goals go_wp2_with fail
      all_goals refine (sum_any l hl _ _ _ _ hn _ (H.out.below hB4)).mono ?_
      all_goals rintro e w1' ⟨rfl, rfl⟩
      all_goals go_wp2_with fail
      all_goals refine (awake_any _).mono ?_
      all_goals rintro e w6 ⟨rfl, hB6⟩
      all_goals go_wp2
      all_goals go_ret
      all_goals exact ⟨rfl, hB4.trans (hB6.mono hB4.size)⟩
end Go.Proofs.Ytgijpmhlkmcpdaa
