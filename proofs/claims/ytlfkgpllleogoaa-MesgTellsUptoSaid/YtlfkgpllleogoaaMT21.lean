/- MesgW2 -/
import Derived.Test.YtlfkgpllleogoaaMT20
namespace Go.Proofs.Ytlfkgpllleogoaa
open Go.RowKit
set_option linter.unusedVariables false
theorem all_take_succ {l : List Int} {k : Nat} {z : Int} {p : Int → Bool} (h : l[k]? = some z) : (l.take (k + 1)).all p = ((l.take k).all p && p z) := by
  rw [take_snoc h, List.all_append]; simp
set_option maxHeartbeats 2000000 in
set_option maxRecDepth 100000 in
theorem wnums_any {W w : World} {b : Nat} {L : List Nat} {f : Bool} {A' : Option Addr} {c' : Nat} {l : List Int} (h : WrAt W w b L f) (hl : L.length ≤ 100000) (hr : Rd W W.heap.size A' l.length (iv l)) (hc : l.length ≤ c' ∧ c' ≤ maxLen) (most : Nat) (hm : most ≤ 8) :
    Calls Try.prog 102 #[.pointer (some ⟨b, 0, none⟩), .slice A' l.length c', .int .i64 (most : Int)] w fun e w' => (∃ A n c, e = .returned (.slice A n c)) ∧ WrP W w b L f (wis most l) (encN l.length ++ Pk.encs l) 100 w' := by
  have HC0 := Lib.hid (wnum_any h (by omega) (l.length : Int) (most : Int))
  by_cases h1 : most < l.length
  · have hw : wis most l = false := by unfold wis; simp; omega
    have hw2 : wi (most : Int) (l.length : Int) = false := by unfold wi; simp; omega
    rw [hw2] at HC0
    rw [hw]
    clear h hr hw hw2
    simp only [Bool.false_eq_true, if_false] at HC0
    go_enter Try.func102, Try.ntmps102
    go_wp2_with (first
      | (go_at_call 101; refine HC0.out.mono ?_; rintro en w1 ⟨rfl, hP⟩; have HP := Lib.hid hP; clear hP)
      | fail)
    go_loopw [8, 18] (fun s8 s18 wr => wr = w1 ∧ s18 = .int .i64 0) (fun _ _ _ => 0)
    case atStart => exact ⟨rfl, rfl⟩
    case round =>
      obtain ⟨rfl, rfl⟩ := hrel
      go_wp2_with fail
      go_ret
      obtain ⟨L', f', k1, k2, k3, k4, k5⟩ := HP.out
      refine ⟨⟨_, _, _, rfl⟩, L', f', k1, k2, k3, fun hf => ?_, by omega⟩
      rw [k3] at hf; simp at hf
  have hw2 : wi (most : Int) (l.length : Int) = true := wi_iff.2 ⟨by omega, by omega⟩
  rw [hw2] at HC0
  simp only [if_true] at HC0
  have hw : wis most l = l.all (wi 1099511627776) := by
    unfold wis; rw [show decide (l.length ≤ most) = true by simp; omega]; rfl
  rw [hw]
  have hn8 : l.length ≤ 8 := by omega
  obtain ⟨n, hn⟩ : ∃ n, l.length = n := ⟨_, rfl⟩
  rw [hn] at hr hc hn8 HC0 ⊢
  have HR := Lib.hid hr
  have HN := Lib.hid hn
  clear h hr hw hw2 h1 hn
  go_enter Try.func102, Try.ntmps102
  go_wp2_with (first
    | (go_at_call 101; refine HC0.out.mono ?_; rintro en w1 ⟨rfl, hP⟩; have HP := Lib.hid hP; clear hP)
    | fail)
  go_loopw [8, 18] (fun s8 s18 wr => ∃ (k : Nat) (L1 : List Nat) (f1 : Bool), k ≤ n ∧ s18 = .int .i64 (k : Int) ∧ Hid (WrAt W wr b L1 f1) ∧ Hid (Only b w wr) ∧ Hid (f1 = (f || !(l.take k).all (wi 1099511627776))) ∧ Hid (f1 = false → L1 = L ++ (encN n ++ Pk.encs (l.take k))) ∧ Hid (L1.length ≤ L.length + 9 * (k + 1))) (fun _ s18 _ => n - (intOf s18).toNat)
  case atStart =>
    obtain ⟨L1, f1, k1, k2, k3, k4, k5⟩ := HP.out
    exact ⟨0, L1, f1, Nat.zero_le _, rfl, Lib.hid k1, Lib.hid k2, Lib.hid (by rw [k3]; simp), Lib.hid (fun hf => by rw [k4 hf]; simp [Pk.encs]; rfl), Lib.hid (by omega)⟩
  case round =>
    obtain ⟨k, L1, f1, hk, rfl, HW, HO, HF, HX, HL⟩ := hrel
    by_cases hlt : k < n
    · obtain ⟨z, hz⟩ : ∃ z, l[k]? = some z := ⟨_, List.getElem?_eq_getElem (by have := HN.out; omega)⟩
      have hwb : Below W.heap.size W wr := by obtain ⟨_, _, _, _, q, _⟩ := HW.out; exact q
      have hrd := HR.out.below hwb
      obtain ⟨bq, o, rfl, _⟩ := hrd.int_at hlt
      have y0 := hrd.int_cell hlt hz
      have hL1 : L1.length ≤ 1000000 := by have := HL.out; omega
      have HCN := Lib.hid (wnum_any HW.out hL1 z 1099511627776)
      have HZ := Lib.hid hz
      clear hrd hwb hz
      go_wp2_with (first
        | (go_at_call 101; refine HCN.out.mono ?_; rintro en w4 ⟨rfl, hP4⟩; have HP4 := Lib.hid hP4; clear hP4)
        | fail)
      go_roundw
      case rel =>
        obtain ⟨L2, f2, k1, k2, k3, k4, k5⟩ := HP4.out
        refine ⟨k + 1, L2, f2, by omega, by go_num, Lib.hid k1, Lib.hid (only_trans HO.out k2), Lib.hid ?_, Lib.hid (fun hf => ?_), Lib.hid (by have := HL.out; omega)⟩
        · rw [k3, HF.out, all_take_succ HZ.out]
          cases f <;> cases (l.take k).all (wi 1099511627776) <;> cases wi 1099511627776 z <;> rfl
        · have hf1 : f1 = false := by rw [hf] at k3; cases f1 <;> simp at k3 ⊢
          rw [k4 hf, HX.out hf1, take_snoc HZ.out, Pk.encs_snoc]
          unfold eI
          simp only [List.append_assoc]
      case measure => simp only [intOf]; omega
    · obtain rfl : k = n := by omega
      go_wp2_with fail
      go_ret
      have hT : l.take k = l := List.take_of_length_le (by have := HN.out; omega)
      refine ⟨⟨_, _, _, rfl⟩, L1, f1, HW.out, HO.out, ?_, fun hf => ?_, by have := HL.out; omega⟩
      · rw [HF.out, hT]
      · rw [HX.out hf, hT]
end Go.Proofs.Ytlfkgpllleogoaa

