/- RegsOnce: the walk. -/
import Derived.Test.YtfkjahdigeaapaaRegsAwake
import Derived.Deep.DeepCutAuto
import Derived.Deep.QuietTactic
import Derived.BigQuiet
namespace Go.Proofs.Ytfkjahdigeaapaa
open Go.RowKit
set_option linter.unusedVariables false
theorem run_min16 {P : Program} (w : World) (ts : Array TypeId) (t : TypeId) (n : Nat) :
    (Builtin.min_ ts t #[.int .i64 (n : Int), .int .i64 16]).run P w = .ok (.int .i64 ((min n 16 : Nat) : Int)) w := by
  have e : ((min n 16 : Nat) : Int) = if (16 : Int) < (n : Int) then 16 else (n : Int) := by
    split <;> omega
  rw [e]
  simp [Builtin.min_, Builtin.min2]
theorem byte_up (x : Nat) : IntKind.u8.wrap ((x : Int) + 1) = (((x + 1) % 256 : Nat) : Int) := by
  rw [IntKind.wrap_u8']; omega
set_option maxHeartbeats 4000000 in
set_option maxRecDepth 100000 in
theorem regsOnce_walk (a0 : Option Addr) (len0 cap0 : Nat) (z0 : List Int) (a1 : Option Addr) (len1 cap1 : Nat) (z1 : List Int) (a2 : Option Addr) (len2 cap2 : Nat) (z2 : List Int) (w : World) (w0 : IsRow .u8 w a0 len0 cap0 z0) (w1 : IsRow .u8 w a1 len1 cap1 z1) (w2 : IsRow .u8 w a2 len2 cap2 z2) :
    Calls Try.prog 5 #[.slice a0 len0 cap0, .slice a1 len1 cap1, .slice a2 len2 cap2] w fun e w' => e = .returned (.bool true) ∧ Below w.heap.size w w' := by
  obtain ⟨l0, hl0, hr0, hle0, hcap0⟩ := w0.rd
  obtain ⟨l1, hl1, hr1, hle1, hcap1⟩ := w1.rd
  obtain ⟨l2, hl2, hr2, hle2, hcap2⟩ := w2.rd
  obtain ⟨i, hi, _⟩ := info_parts byteT.info
  have hB0 := Below.refl w.heap.size w
  have m0 := run_min16 (P := Try.prog)
  have S0 := fun (w : World) => run_slice_to (P := Try.prog) Try.underlying25 hi a0 len0 cap0 (min len0 16) (by omega) w
  have S1 := fun (w : World) => run_slice_to (P := Try.prog) Try.underlying25 hi a1 len1 cap1 (min len1 16) (by omega) w
  have S2 := fun (w : World) => run_slice_to (P := Try.prog) Try.underlying25 hi a2 len2 cap2 (min len2 16) (by omega) w
  have R0 := hr0.take (k := min len0 16) (by omega)
  have R1 := hr1.take (k := min len1 16) (by omega)
  have R2 := hr2.take (k := min len2 16) (by omega)
  rw [← bv_take] at R0 R1 R2
  have L0 : Hid (∀ x ∈ l0.take (min len0 16), x < 256) := Lib.hid (fun x hx => hl0 x (List.mem_of_mem_take hx))
  have L1 : Hid (∀ x ∈ l1.take (min len1 16), x < 256) := Lib.hid (fun x hx => hl1 x (List.mem_of_mem_take hx))
  have L2 : Hid (∀ x ∈ l2.take (min len2 16), x < 256) := Lib.hid (fun x hx => hl2 x (List.mem_of_mem_take hx))
  have H0 := Lib.hid R0
  have H1 := Lib.hid R1
  have H2 := Lib.hid R2
  have b0 : min len0 16 ≤ 16 := by omega
  have b1 : min len1 16 ≤ 16 := by omega
  have b2 : min len2 16 ≤ 16 := by omega
  clear w0 w1 w2 hcap0 hcap1 hcap2 hle0 hle1 hle2 hr0 hr1 hr2 hl0 hl1 hl2 R0 R1 R2 hi
  go_enter Try.func5, Try.ntmps5
  go_wp2_with fail
  go_quiet (fail)
  have hBu : Below w.heap.size w (w.drewN nq) := below_drewN hB0 nq
  have U0 := Lib.hid (fun (w' : World) (h : Below w.heap.size w w') => H0.out.below h)
  have U1 := Lib.hid (fun (w' : World) (h : Below w.heap.size w w') => H1.out.below h)
  have U2 := Lib.hid (fun (w' : World) (h : Below w.heap.size w w') => H2.out.below h)
  generalize w.drewN nq = u at *
  generalize min len0 16 = n0 at *
  generalize min len1 16 = n1 at *
  generalize min len2 16 = n2 at *
  generalize l0.take n0 = k0 at *
  generalize l1.take n1 = k1 at *
  generalize l2.take n2 = k2 at *
  have N1 := Lib.hid (U1.out _ hBu).length
  have N2 := Lib.hid (U2.out _ hBu).length
  clear H0 H1 H2 S0 S1 S2 m0
  go_wp2_with fail
  refine (cas_any (W := w) (s := k0) (old := k0) (v := k1) (by unfold Lim; omega) (by unfold Lim; omega) L0.out L0.out (U0.out _ hBu) (U1.out _ hBu) (U0.out _ hBu) hBu).mono ?_
  rw [show casS k0 k0 k1 = k1 by unfold casS; rw [if_neg (by have := N1.out; omega), if_pos rfl], show casE k0 k0 k1 = 0 by unfold casE; rw [if_neg (by have := N1.out; omega), if_pos rfl], show casV k0 k0 k1 = [] by unfold casV; rw [if_neg (by have := N1.out; omega), if_pos rfl]]
  rintro e w1 ⟨A1, c1, A2, c2, rfl, ho1, ho2, hB1, hb1⟩
  unfold resV
  rw [show k1.length = n1 from N1.out] at *
  have hB1' := hB1.alloc hB1.size (.cells #[.int .i64 0, .slice A2 0 c2, .int .i64 0] 27)
  have R1 := Lib.hid ((Rd.own_ ho1).alloc (Nat.le_refl _) (.cells #[.int .i64 0, .slice A2 0 c2, .int .i64 0] 27))
  go_wp2_with fail
  refine (cas_any (W := w) (s := k1) (old := k0) (v := k2) (by unfold Lim; omega) (by unfold Lim; omega) L1.out L0.out R1.out (U2.out _ hB1') (U0.out _ hB1') hB1').mono ?_
  have hz : casS k1 k0 k2 = (if k1 = k0 then k2 else k1) ∧ casE k1 k0 k2 = (if k1 = k0 then 0 else 2) ∧ casV k1 k0 k2 = (if k1 = k0 then [] else k1) := by
    unfold casS casE casV
    refine ⟨?_, ?_, ?_⟩ <;> rw [if_neg (by have := N2.out; omega)]
  rw [hz.1, hz.2.1, hz.2.2]
  clear hz
  rintro e w2 ⟨A3, c3, A4, c4, rfl, ho3, ho4, hB2, hb2⟩
  unfold resV
  have f2 : Below w2.heap.size w2 (w2.alloc (.cells #[.int .i64 (if k1 = k0 then 0 else 2), .slice A4 (if k1 = k0 then [] else k1).length c4, .int .i64 0] 27)) := (Below.refl _ _).alloc (Nat.le_refl _) _
  have hB2' := hB2.trans (f2.mono hB2.size)
  have g1 := hb2.trans (f2.mono hb2.size)
  have f1 := ((Below.refl w1.heap.size w1).alloc (Nat.le_refl _) (.cells #[.int .i64 0, .slice A2 0 c2, .int .i64 0] 27)).trans (g1.mono (by simp))
  have K1 := (Blk.new w1 27 #[.int .i64 0, .slice A2 0 c2, .int .i64 0]).below g1
  have O1 := Lib.hid (own_below ho1 f1)
  have D1 := Rd.own_ O1.out
  have D3 := (Rd.own_ ho3).below f2
  have D4 := (Rd.own_ ho4).below f2
  have s0 := str_of (c := cap0) (U0.out _ hB2')
  have s1 := str_of (c := cap1) (U1.out _ hB2')
  have s2 := str_of (c := cap2) (U2.out _ hB2')
  have s3 := str_of (c := c1) D1
  have s4 := str_of (c := c3) D3
  have s5 := str_of (c := c4) D4
  obtain ⟨x0, x1, x2, _, _, _⟩ := three K1
  clear hb2 f2 g1 f1 K1 ho1 ho2 ho3 ho4 D1 D3 D4 hb1 hB1 hB1' R1 hB2 hBu
  have qq : ∀ l : List Nat, ((strB l).toList == (strB l).toList) = true := fun l => by simp
  have qs : ∀ l : List Nat, (strB l == strB l) = true := strB_self
  go_upto_region 6 with fail
  go_cut [94] (fun s94 wx => s94 = .bool false ∧ OwnB w wx A1 n1 c1 k1 ∧ Below w.heap.size w wx)
  case first =>
    by_cases hk : k1 = k0
    · subst hk
      simp only [if_true, List.length_nil] at *
      have q1 := qq k1
      have q2 := qq k2
      have q3 := qs k1
      have q4 := qs k2
      clear qq qs
      go_wp2
      go_meet
      exact ⟨rfl, O1.out, hB2'⟩
    · have e1 := strL_eq L1.out L0.out
      have e2 := strB_eq L1.out L0.out
      rw [decide_eq_false hk] at e1 e2
      simp only [if_neg hk] at *
      have q1 := qq k1
      have q3 := qs k1
      clear qq qs
      go_wp2
      go_meet
      exact ⟨rfl, O1.out, hB2'⟩
  case rest =>
    obtain ⟨rfl, hO, hB⟩ := hcut
    rename World => v0
    clear s0 s1 s2 s3 s4 s5 x0 x1 x2 O1 hB2'
    generalize (if k1 = k0 then k2 else k1).length = rb
    have s0 := str_of (c := cap0) (U0.out _ hB)
    go_wp2_with fail
    refine (read_any (W := v0) (l := k0) (by unfold Lim; omega) (U0.out _ hB) (Below.refl _ _)).mono ?_
    rintro e v1 ⟨A5, c5, rfl, ho5, hb5, _⟩
    unfold resV
    have N0 : k0.length = n0 := (U0.out _ hB).length
    subst N0
    have hB5 := hB.trans (hb5.mono hB.size)
    have s1 := str_of (c := cap0) (U0.out _ (hB5.alloc hB5.size (.cells #[.int .i64 0, .slice A5 k0.length c5, .int .i64 0] 27)))
    clear s0
    have HBv := Lib.hid hb5
    have HB5 := Lib.hid hB5
    have K5 := Lib.hid (Blk.new v1 27 #[.int .i64 0, .slice A5 k0.length c5, .int .i64 0])
    have O5 := Lib.hid (own_below ho5 ((Below.refl _ _).alloc (Nat.le_refl _) (.cells #[.int .i64 0, .slice A5 k0.length c5, .int .i64 0] 27)))
    have BV := Lib.hid (hb5.alloc hb5.size (.cells #[.int .i64 0, .slice A5 k0.length c5, .int .i64 0] 27))
    have hv01 : v0.heap.size ≤ v1.heap.size := hb5.size
    clear ho5 hb5 hB5 N1 N2
    go_wp2_with fail
    go_loopw [102] (fun s102 wr => ∃ (k : Nat) (l' : List Nat), k ≤ k0.length ∧ s102 = .int .i64 k ∧ v0.heap.size ≤ v1.heap.size ∧ OwnB v0 wr A5 k0.length c5 l' ∧ Blk wr v1.heap.size 27 #[.int .i64 0, .slice A5 k0.length c5, .int .i64 0] ∧ Below v0.heap.size v0 wr)
      (fun s102 _ => k0.length - (intOf s102).toNat)
    case atStart => exact ⟨0, k0, Nat.zero_le _, rfl, hv01, O5.out, K5.out, BV.out⟩
    case round =>
      obtain ⟨k, l', hk, rfl, hv, ho, hK, hb⟩ := hrel
      by_cases hlt : k < k0.length
      · obtain ⟨g, rfl, hg1, hg2⟩ := own_addr ho (by omega)
        have hc := own_byte ho hlt
        have hu := byte_up (l'.getD k 0)
        obtain ⟨_, x1, _, _, _, _⟩ := three hK
        obtain ⟨cur, hbk⟩ : ∃ cur, Blk wr g 5 cur := by
          rcases own_blk ho with ⟨h1, _⟩ | ⟨g', cur, h1, _, h2⟩
          · cases h1
          · injection h1 with h1; injection h1 with h1; subst h1; exact ⟨cur, h2⟩
        have hf := hbk.frozen k
        have Ho := Lib.hid (own_set ho k ((l'.getD k 0 + 1) % 256))
        have HK := Lib.hid (hK.set_other (i := k) (u := .int .u8 (((l'.getD k 0 + 1) % 256 : Nat) : Int)) (fun e => hK.apart hbk (by decide) e))
        have Hb := Lib.hid (hb.setCell (p := ⟨g, k, none⟩) hg1 (.int .u8 (((l'.getD k 0 + 1) % 256 : Nat) : Int)))
        clear ho hK hb hbk hg2
        go_wp2_with fail
        go_roundw
        case rel =>
          have e : (((l'[k]?.getD 0 : Nat) : Int) + 1) % 256 = (((l'.getD k 0 + 1) % 256 : Nat) : Int) := by rw [List.getD_eq_getElem?_getD]; omega
          rw [e]
          exact ⟨k + 1, _, by omega, by go_num, hv, Ho.out, HK.out, Hb.out⟩
        case measure =>
          simp only [intOf]; omega
      · obtain rfl : k = k0.length := by omega
        have hOw := Lib.hid (own_below hO hb)
        have hBw := Lib.hid (hB.trans (hb.mono hB.size))
        clear ho hK hb hO hB O5 K5 BV HB5 HBv s1
        rename World => z0
        go_wp2_with fail
        go_loopw [115] (fun s115 wr => ∃ (k : Nat) (l' : List Nat), k ≤ n1 ∧ s115 = .int .i64 k ∧ OwnB w wr A1 n1 c1 l' ∧ Below w.heap.size w wr)
          (fun s115 _ => n1 - (intOf s115).toNat)
        case atStart => exact ⟨0, k1, Nat.zero_le _, rfl, hOw.out, hBw.out⟩
        case round =>
          obtain ⟨k, l', hk, rfl, ho, hb⟩ := hrel
          by_cases hlt : k < n1
          · obtain ⟨g, rfl, hg1, hg2⟩ := own_addr ho (by omega)
            have hc := own_byte ho hlt
            have hu := byte_up (l'.getD k 0)
            obtain ⟨cur, hbk⟩ : ∃ cur, Blk wr g 5 cur := by
              rcases own_blk ho with ⟨h1, _⟩ | ⟨g', cur, h1, _, h2⟩
              · cases h1
              · injection h1 with h1; injection h1 with h1; subst h1; exact ⟨cur, h2⟩
            have hf := hbk.frozen k
            have Ho := Lib.hid (own_set ho k ((l'.getD k 0 + 1) % 256))
            have Hb := Lib.hid (hb.setCell (p := ⟨g, k, none⟩) hg1 (.int .u8 (((l'.getD k 0 + 1) % 256 : Nat) : Int)))
            clear ho hb hbk hg2
            go_wp2_with fail
            go_roundw
            case rel =>
              have e : (((l'[k]?.getD 0 : Nat) : Int) + 1) % 256 = (((l'.getD k 0 + 1) % 256 : Nat) : Int) := by rw [List.getD_eq_getElem?_getD]; omega
              rw [e]
              exact ⟨k + 1, _, by omega, by go_num, Ho.out, Hb.out⟩
            case measure =>
              simp only [intOf]; omega
          · obtain rfl : k = n1 := by omega
            have s0 := str_of (c := cap0) (U0.out _ hb)
            have q0 : ((strB k0).toList == (strB k0).toList) = true := by simp
            have q1 : (strB k0 == strB k0) = true := strB_self _
            have kf := val_field
            have HB := Lib.hid hb
            clear ho hb
            rename World => z1
            go_wp2_with (first
              | (go_at_call 12; refine (read_any (W := w) (l := k0) (by unfold Lim; omega) (U0.out _ HB.out) HB.out).mono ?_; rintro e v1 ⟨A5, c5, rfl, ho5, hb5, _⟩; unfold resV; have s3 := str_of (c := c5) (Rd.own_ ho5))
              | (go_at_call 8; refine (awake_any _).mono ?_; rintro e v2 ⟨rfl, hb6⟩))
            go_ret
            exact ⟨rfl, hb5.trans (hb6.mono hb5.size)⟩
end Go.Proofs.Ytfkjahdigeaapaa
