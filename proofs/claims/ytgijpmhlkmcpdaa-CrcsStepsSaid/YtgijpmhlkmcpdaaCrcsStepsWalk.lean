/- CrcsSteps: the walk. -/
import Derived.Test.YtgijpmhlkmcpdaaCrcAwake
import Derived.OwnWalk
import Derived.Deep.RegionWith
import Derived.WalkSpells
import Derived.WalkLawsBesides
import Derived.Laws.DeepStrings4
namespace Go.Proofs.Ytgijpmhlkmcpdaa
open Go.RowKit
set_option linter.unusedVariables false

theorem i64_and_65535 (n : Int) : bits .and .i64 n 65535 = n % 65536 := by
  show IntKind.i64.wrap ((BitVec.ofInt 64 n &&& BitVec.ofInt 64 65535).toNat : Int) = _
  have e : (BitVec.ofInt 64 n &&& BitVec.ofInt 64 65535).toNat = (n % 65536).toNat := by
    rw [BitVec.toNat_and]
    have h1 : (BitVec.ofInt 64 65535).toNat = 2 ^ 16 - 1 := by decide
    rw [h1, Nat.and_two_pow_sub_one_eq_mod, BitVec.toNat_ofInt]
    omega
  rw [e, IntKind.wrap_i64]
  omega

theorem byteT : ByteT Try.prog 26 5 := ⟨Try.underlying26, by kernel_rfl⟩
theorem cmp {l : List Nat} {c x y : Nat} (hl : ∀ x ∈ l, x < 256) (hc : Crc.U32 c) (hx : x < 256) (hy : y < 256) :
    ∃ d : Bool, (((Crc.nxt c x : Nat) : Int) == ((Crc.nxt c y : Nat) : Int)) = d ∧ ((x : Int) == (y : Int)) = d ∧ (((Crc.sum (l ++ [x]) : Nat) : Int) == ((Crc.sum (l ++ [y]) : Nat) : Int)) = d := by
  rcases Nat.decEq x y with h | h
  · have h1 := mt (Crc.nxt_inj hc hx hy).1 h
    have h2 := mt (Crc.sum_snoc hl hx hy).1 h
    exact ⟨false, beq_eq_false_iff_ne.2 (by omega), beq_eq_false_iff_ne.2 (by omega), beq_eq_false_iff_ne.2 (by omega)⟩
  · subst h
    exact ⟨true, beq_self_eq_true _, beq_self_eq_true _, beq_self_eq_true _⟩

set_option maxHeartbeats 1000000 in
theorem crcsSteps_walk (a0 : Option Addr) (len0 cap0 : Nat) (z0 : List Int) (a1 : Int) (a2 : Int) (a3 : Int) (w : World) (w0 : IsRow .u8 w a0 len0 cap0 z0) (w1 : (Lit.int .i64 a1).wf = true) (w2 : (Lit.int .u8 a2).wf = true) (w3 : (Lit.int .u8 a3).wf = true) :
    Calls Try.prog 7 #[.slice a0 len0 cap0, .int .i64 a1, .int .u8 a2, .int .u8 a3] w fun e w' => e = .returned (.bool true) ∧ Below w.heap.size w w' := by
  obtain ⟨l, hl, h, hle, hcap⟩ := w0.rd
  obtain ⟨x, rfl, hx⟩ := u8_nat w2
  obtain ⟨y, rfl, hy⟩ := u8_nat w3
  have hn : len0 ≤ maxLen := Nat.le_trans hle hcap
  have hn' : len0 ≤ 9223372036854775807 := hn
  have e1 := i64_and_65535 a1
  clear w1 w2 w3 w0 hcap
  by_cases hlt : 300 < len0
  · clear e1
    go_enter Try.func7, Try.ntmps7
    go_wp2_with (go_at_call 9; refine (awake_any _).mono ?_; rintro e w1 ⟨rfl, hb⟩)
    go_ret
    exact ⟨rfl, hb⟩
  · have H := Lib.hid h
    clear h
    obtain ⟨k, hk, hk2⟩ : ∃ k : Nat, (a1 % 65536).tmod ((len0 : Int) + 1) = (k : Int) ∧ k ≤ len0 := by
      rw [Int.tmod_eq_emod_of_nonneg (by omega)]
      have h1 := Int.emod_nonneg (a1 % 65536) (show (len0 : Int) + 1 ≠ 0 by omega)
      have h2 := Int.emod_lt_of_pos (a1 % 65536) (show (0 : Int) < (len0 : Int) + 1 by omega)
      exact ⟨((a1 % 65536) % ((len0 : Int) + 1)).toNat, by omega, by omega⟩
    have hk3 : (k : Int) ≤ (cap0 : Int) := by omega
    have H0 := Lib.hid (Crc.run_zero 4294967295 l)
    have hlen := Lib.hid H.out.length
    go_enter Try.func7, Try.ntmps7
    go_wp2_with fail
    go_loop [9, 11] (fun c i => ∃ j : Nat, j ≤ k ∧ i = .int .i64 j ∧ c = .int .u32 (Crc.run 4294967295 (l.take j) : Nat)) (fun _ i => k - (intOf i).toNat)
    case atStart => exact ⟨0, by omega, rfl, by rw [H0.out]; rfl⟩
    case round =>
      clear hk e1
      obtain ⟨j, hj, rfl, rfl⟩ := hrel
      have hs : Crc.U32 (Crc.run 4294967295 (l.take j)) := Crc.run_lt _ (by omega) (Crc.take_lt hl j)
      by_cases hlt : j < k
      · obtain ⟨b, o, rfl, hk', hc⟩ := H.out.bytes_at (k := j) (by omega)
        have hx : l[j] < 256 := hl _ (List.getElem_mem hk')
        have HT := Lib.hid (Crc.run_take 4294967295 l j hk')
        go_wp2_with (go_at_call 11; refine (next_any _ _ hs hx _).mono ?_; rintro e w' ⟨rfl, rfl⟩)
        go_round
        case rel => exact ⟨j + 1, by omega, by go_num, by rw [HT.out]⟩
        case measure => simp [intOf]; omega
      · obtain rfl : j = k := by omega
        have hx1 : bits .xor .u32 ((Crc.run 4294967295 (l.take j) : Nat) : Int) 4294967295 = ((Crc.sum (l.take j) : Nat) : Int) := u32_xor_nat _ 4294967295 hs (by omega)
        obtain ⟨d, hb1, hb2, hb3⟩ := cmp hl hs hx hy
        have hlx : ∀ z ∈ l ++ [x], z < 256 := by intro z hz; rcases List.mem_append.1 hz with h | h; exact hl z h; simp at h; omega
        have hly : ∀ z ∈ l ++ [y], z < 256 := by intro z hz; rcases List.mem_append.1 hz with h | h; exact hl z h; simp at h; omega
        have HX := Lib.hid hlx
        have HY := Lib.hid hly
        clear hlx hly
        have hB0 : Below w.heap.size w w := Below.refl _ _
        go_wp2_with fail
        refine (sum_any (l.take j) (Crc.take_lt hl j) _ _ _ _ (by omega) _ (by rw [bv_take]; exact H.out.take hk2)).mono ?_
        rintro e w1 ⟨rfl, rfl⟩
        go_wp2_with fail
        refine (next_any _ x hs hx _).mono ?_
        rintro e w1 ⟨rfl, rfl⟩
        go_wp2_with fail
        refine (next_any _ y hs hy _).mono ?_
        rintro e w1 ⟨rfl, rfl⟩
        cases d
        all_goals go_wp2_with (first
          | (at_builtin
             refine wpList_append_bytes (W := w) byteT (.tmp 52) (.tmp 53) rfl (by rfl) rfl (own_empty hB0 5) rfl (H.out.alloc (Nat.le_refl _) _) (by omega) (hB0.alloc (Nat.le_refl _) _) ?_
             intro A1 c1 w1 hown1 hr1 hB1
             simp only [Nat.zero_add, List.nil_append] at hown1 hr1)
          | (at_builtin
             refine wpList_append_bytes (W := w) byteT (.tmp 54) (.tmp 56) rfl (by rfl) rfl (hown1.alloc _) rfl (Rd.one w1 x 5) (by omega) (hB1.alloc hB1.size _) ?_
             intro A2 c2 w2 hown2 hr2 hB2
             clear hown1 hr1 hB1)
          | fail)
        all_goals refine (sum_any (l ++ [x]) HX.out _ _ _ _ (by unfold maxLen; omega) _ hr2).mono ?_
        all_goals rintro e w5 ⟨rfl, rfl⟩
        all_goals go_wp2_with (first
          | (at_builtin
             refine wpList_append_bytes (W := w) byteT (.tmp 59) (.tmp 60) rfl (by rfl) rfl (own_empty hB2 5) rfl ((H.out.below hB2).alloc hB2.size _) (by omega) (hB2.alloc hB2.size _) ?_
             intro A3 c3 w3 hown3 hr3 hB3
             simp only [Nat.zero_add, List.nil_append] at hown3 hr3)
          | (at_builtin
             refine wpList_append_bytes (W := w) byteT (.tmp 61) (.tmp 63) rfl (by rfl) rfl (hown3.alloc _) rfl (Rd.one w3 y 5) (by omega) (hB3.alloc hB3.size _) ?_
             intro A4 c4 w4 hown4 hr4 hB4
             clear hown3 hr3 hB3))
        all_goals refine (sum_any (l ++ [y]) HY.out _ _ _ _ (by unfold maxLen; omega) _ hr4).mono ?_
        all_goals rintro e w5 ⟨rfl, rfl⟩
        all_goals go_wp2_with fail
        all_goals refine (awake_any _).mono ?_
        all_goals rintro e w6 ⟨rfl, hB6⟩
        all_goals go_wp2
        all_goals go_ret
        all_goals exact ⟨rfl, hB4.trans (hB6.mono hB4.size)⟩
end Go.Proofs.Ytgijpmhlkmcpdaa
