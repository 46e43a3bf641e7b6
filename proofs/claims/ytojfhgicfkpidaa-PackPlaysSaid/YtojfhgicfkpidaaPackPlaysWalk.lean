/- PackPlays: the walk. -/
import Derived.Test.YtojfhgicfkpidaaPackRef
import Derived.Deep.RegionWith
import Derived.Deep.RegionHeld3
import Derived.Deep.DeepCutAuto
import Derived.Deep.CutBlock
import Derived.Deep.DrawnRows
namespace Go.Proofs.Ytojfhgicfkpidaa
open Go.RowKit
set_option linter.unusedVariables false
attribute [local go_sem ↓] Go.wp_at_zero Go.wp_at_succ
theorem and_mask (n : Int) (j : Nat) (hj : j < 62) : bits .and .i64 n ((2 ^ j - 1 : Nat) : Int) = n % ((2 ^ j : Nat) : Int) := by
  have hp : 2 ^ j < 2 ^ 62 := Nat.pow_lt_pow_right (by omega) hj
  have hp0 : 0 < 2 ^ j := Nat.two_pow_pos j
  show IntKind.i64.wrap ((BitVec.ofInt 64 n &&& BitVec.ofInt 64 ((2 ^ j - 1 : Nat) : Int)).toNat : Int) = _
  have h1 : (BitVec.ofInt 64 ((2 ^ j - 1 : Nat) : Int)).toNat = 2 ^ j - 1 := by
    rw [BitVec.toNat_ofInt]
    have : (((2 ^ j - 1 : Nat) : Int) % ((2 ^ 64 : Nat) : Int)) = ((2 ^ j - 1 : Nat) : Int) := Int.emod_eq_of_lt (by omega) (by omega)
    rw [this]; simp
  have e : (BitVec.ofInt 64 n &&& BitVec.ofInt 64 ((2 ^ j - 1 : Nat) : Int)).toNat = (n % ((2 ^ j : Nat) : Int)).toNat := by
    rw [BitVec.toNat_and, h1, Nat.and_two_pow_sub_one_eq_mod, BitVec.toNat_ofInt]
    have hd : ((2 ^ j : Nat) : Int) ∣ ((2 ^ 64 : Nat) : Int) := by
      refine ⟨((2 ^ (64 - j) : Nat) : Int), ?_⟩
      rw [← Int.natCast_mul, ← Nat.pow_add, show j + (64 - j) = 64 by omega]
    have h2 := Int.emod_emod_of_dvd n hd
    have h3 := Int.emod_nonneg n (show ((2 ^ 64 : Nat) : Int) ≠ 0 by omega)
    have h4 := Int.emod_nonneg n (show ((2 ^ j : Nat) : Int) ≠ 0 by omega)
    have h5 : (((n % ((2 ^ 64 : Nat) : Int)).toNat % 2 ^ j : Nat) : Int) = n % ((2 ^ j : Nat) : Int) := by
      rw [Int.natCast_emod, Int.toNat_of_nonneg h3, h2]
    omega
  rw [e, IntKind.wrap_i64]
  have h4 := Int.emod_nonneg n (show ((2 ^ j : Nat) : Int) ≠ 0 by omega)
  have h5 := Int.emod_lt_of_pos n (show 0 < ((2 ^ j : Nat) : Int) by omega)
  omega
theorem and_1 (n : Int) : bits .and .i64 n 1 = n % 2 := by simpa using and_mask n 1 (by omega)
theorem and_3 (n : Int) : bits .and .i64 n 3 = n % 4 := by simpa using and_mask n 2 (by omega)
theorem and_ffff (n : Int) : bits .and .i64 n 65535 = n % 65536 := by simpa using and_mask n 16 (by omega)
/-- both have written the same bytes L -/
def Both (W w : World) (A : Option Addr) (n : Nat) (A' : Option Addr) (n' : Nat) (L : List Nat) : Prop :=
  RdT w 5 A n (bv L) ∧ RdT w 5 A' n' (bv L) ∧ (∀ x ∈ L, x < 256) ∧ Below W.heap.size W w
theorem ref_in {W w : World} {l l' : List Nat} {A : Option Addr} {n c B : Nat} {N : Int} (hn : Lim 20 n) (hr : Rd w B A n (bv l)) (hB : Below W.heap.size W w) (he : l ++ Pk.enc (Pk.held N) = l') :
    Calls Try.prog 15 #[.slice A n c, .int .i64 N] w fun e w' => ∃ A n c, e = .returned (.slice A n c) ∧ OwnB W w' A n c l' ∧ Below W.heap.size W w' ∧ Below w.heap.size w w' := by
  subst he
  refine (refnum_any l A n c B N hn w hr).mono ?_
  rintro e w' ⟨A, n, c, h1, h2, h3⟩
  exact ⟨A, n, c, h1, own_base h2 hB.size, hB.trans (h3.mono hB.size), h3⟩
theorem refb_in {W w : World} {l x l' : List Nat} {A : Option Addr} {n c B : Nat} {A' : Option Addr} {n' c' B' : Nat} (hr : Rd w B A n (bv l)) (hr' : Rd w B' A' n' (bv x)) (hn : Lim 20 (l.length + x.length)) (hB : Below W.heap.size W w) (he : l ++ Pk.encB x = l') :
    Calls Try.prog 16 #[.slice A n c, .slice A' n' c'] w fun e w' => ∃ A n c, e = .returned (.slice A n c) ∧ OwnB W w' A n c l' ∧ Below W.heap.size W w' ∧ Below w.heap.size w w' := by
  subst he
  have h1 := hr.length
  have h2 := hr'.length
  have h3 := hn.out
  refine (refbytes_any l x A n c B A' n' c' B' (by unfold Lim; omega) (by unfold Lim; omega) (by unfold Lim; omega) w hr hr').mono ?_
  rintro e w' ⟨A, n, c, h1, h2, h3⟩
  exact ⟨A, n, c, h1, own_base h2 hB.size, hB.trans (h3.mono hB.size), h3⟩
theorem both_num {W w2 w3 : World} {L : List Nat} {N : Nat} {A2 A3 : Option Addr} {n2 c2 n3 c3 : Nat} (hN : N ≤ Pk.top) (hLx : ∀ x ∈ L, x < 256) (h2 : OwnB W w2 A2 n2 c2 (L ++ Pk.enc N)) (hb3 : Below w2.heap.size w2 w3) (h3 : OwnB W w3 A3 n3 c3 (L ++ Pk.enc N)) (hB : Below W.heap.size W w3) :
    ∃ L2, Both W w3 A2 n2 A3 n3 L2 ∧ L2.length ≤ L.length + 9 ∧ n2 ≤ c2 ∧ Hid (c2 ≤ maxLen) := by
  refine ⟨L ++ Pk.enc N, ⟨(RdT.own h2).below hb3, RdT.own h3, fun x hx => ?_, hB⟩, ?_, (own_cap h2).1, Lib.hid (own_cap h2).2⟩
  · rcases List.mem_append.1 hx with hx | hx
    · exact hLx x hx
    · exact Pk.enc_lt hN x hx
  · have := Pk.enc_length N; rw [List.length_append]; omega
theorem both_byt {W w2 w3 : World} {L x : List Nat} {A2 A3 : Option Addr} {n2 c2 n3 c3 : Nat} (hx : x.length ≤ 10) (hxx : ∀ y ∈ x, y < 256) (hLx : ∀ x ∈ L, x < 256) (h2 : OwnB W w2 A2 n2 c2 (L ++ Pk.encB x)) (hb3 : Below w2.heap.size w2 w3) (h3 : OwnB W w3 A3 n3 c3 (L ++ Pk.encB x)) (hB : Below W.heap.size W w3) :
    ∃ L2, Both W w3 A2 n2 A3 n3 L2 ∧ L2.length ≤ L.length + 19 ∧ n2 ≤ c2 ∧ Hid (c2 ≤ maxLen) := by
  refine ⟨L ++ Pk.encB x, ⟨(RdT.own h2).below hb3, RdT.own h3, fun y hy => ?_, hB⟩, ?_, (own_cap h2).1, Lib.hid (own_cap h2).2⟩
  · rcases List.mem_append.1 hy with hy | hy
    · exact hLx y hy
    · exact Pk.encB_lt hxx (by unfold Pk.top; omega) y hy
  · have := Pk.enc_length x.length; unfold Pk.encB; rw [List.length_append, List.length_append]; omega
theorem run_min_nat {P : Program} (w : World) (ts : Array TypeId) (t : TypeId) (n k : Nat) :
    (Builtin.min_ ts t #[.int .i64 (n : Int), .int .i64 (k : Int)]).run P w = .ok (.int .i64 ((min n k : Nat) : Int)) w := by
  have e : ((min n k : Nat) : Int) = if (k : Int) < (n : Int) then (k : Int) else (n : Int) := by omega
  rw [e]
  simp [Builtin.min_, Builtin.min2]
/-- a row of slices: at place j a slice that reads as bytes -/
def Elem (w : World) (g j : Nat) : Prop := ∃ A n c L, w.cell? ⟨g, j, none⟩ = some (.slice A n c) ∧ Rd w w.heap.size A n (bv L) ∧ (∀ x ∈ L, x < 256) ∧ n ≤ c ∧ c ≤ maxLen ∧ Lim 40 n
theorem refbytes_in {W w : World} {B b : Nat} {s : Pk.St} {most : Int} (h : RefAt w B b s) (hB : Below W.heap.size W w) (hb : W.heap.size ≤ b) :
    Calls Try.prog 17 #[.pointer (some ⟨b, 0, none⟩), .int .i64 most] w fun e w' => ∃ A n c, e = .returned (.slice A n c) ∧ OwnB W w' A n c (Pk.bytV s most) ∧ RefAt w' B b (Pk.bytS s most) ∧ Below W.heap.size W w' ∧ Only b w w' :=
  (refrbytes_any w B b s most h).mono fun e w' ⟨A, n, c, h1, h2, h3, h4⟩ => ⟨A, n, c, h1, own_base h2 hB.size, h3, below_only hB h4 hb, h4⟩
theorem refnum_in {W w : World} {B b : Nat} {s : Pk.St} {most : Int} (h : RefAt w B b s) (hB : Below W.heap.size W w) (hb : W.heap.size ≤ b) :
    Calls Try.prog 18 #[.pointer (some ⟨b, 0, none⟩), .int .i64 most] w fun e w' => e = .returned (.int .i64 (Pk.numV s most : Nat)) ∧ RefAt w' B b (Pk.numS s most) ∧ Below W.heap.size W w' ∧ Only b w w' :=
  (refrnum_any w B b s most h).mono fun e w' ⟨h1, h2, h3, h4⟩ => ⟨h1, h2, below_only hB h3 hb, h3⟩
theorem RefAt.blk {w : World} {B b : Nat} {s : Pk.St} (h : RefAt w B b s) : ∃ cs, Blk w b 39 cs := by
  obtain ⟨A, n, c, h1, _⟩ := h
  exact ⟨_, h1⟩
theorem RefAt.flag {w : World} {B b : Nat} {s : Pk.St} (h : RefAt w B b s) : w.cell? ⟨b, 1, none⟩ = some (.bool s.isNone) := by
  obtain ⟨A, n, c, h1, _⟩ := h
  exact h1.cell 1
/-- the two readers, and all that was there -/
def Pair (W w : World) (r s : Nat) (st : Pk.St) : Prop := RdrAt w r st ∧ RefAt w W.heap.size s st ∧ Below W.heap.size W w
set_option maxHeartbeats 4000000 in
set_option maxRecDepth 100000 in
theorem packPlays_walk (a0 : Option Addr) (len0 cap0 : Nat) (z0 : List Int) (a1 : Option Addr) (len1 cap1 : Nat) (z1 : List Int) (a2 : Option Addr) (len2 cap2 : Nat) (z2 : List Int) (a3 : Option Addr) (len3 cap3 : Nat) (z3 : List Int) (a4 : Int) (a5 : Int) (w : World)
    (w0 : IsRow .u8 w a0 len0 cap0 z0) (w1 : IsRow .i64 w a1 len1 cap1 z1) (w2 : IsRow .i64 w a2 len2 cap2 z2) (w3 : IsRow .i64 w a3 len3 cap3 z3) (w4 : (Lit.int .i64 a4).wf = true) (w5 : (Lit.int .u8 a5).wf = true) :
    Calls Try.prog 5 #[.slice a0 len0 cap0, .slice a1 len1 cap1, .slice a2 len2 cap2, .slice a3 len3 cap3, .int .i64 a4, .int .u8 a5] w fun e w' => e = .returned (.bool true) ∧ Below w.heap.size w w' := by
  obtain ⟨l, hl, h, hle, hcap⟩ := w0.rd
  obtain ⟨y, rfl, hy⟩ := u8_nat w5
  obtain ⟨hz1, hzl1, hle1, hcap1⟩ := w1.ints
  obtain ⟨hz2, hzl2, hle2, hcap2⟩ := w2.ints
  obtain ⟨hz3, hzl3, hle3, hcap3⟩ := w3.ints
  obtain ⟨ns, hns⟩ : ∃ zs, zs = z1.take len1 := ⟨_, rfl⟩
  obtain ⟨ac, has⟩ : ∃ zs, zs = z2.take len2 := ⟨_, rfl⟩
  obtain ⟨bs, hbs⟩ : ∃ zs, zs = z3.take len3 := ⟨_, rfl⟩
  rw [← hns] at hz1 hzl1
  rw [← has] at hz2 hzl2
  rw [← hbs] at hz3 hzl3
  have hn0 : len0 ≤ 9223372036854775807 := Nat.le_trans hle hcap
  have hn1 : len1 ≤ 9223372036854775807 := Nat.le_trans hle1 hcap1
  have hn2 : len2 ≤ 9223372036854775807 := Nat.le_trans hle2 hcap2
  have hn3 : len3 ≤ 9223372036854775807 := Nat.le_trans hle3 hcap3
  have hc0m := Lib.hid hcap
  clear w0 w1 w2 w3 w4 w5 hcap hcap1 hcap2 hcap3 hns has hbs
  by_cases hlt : 200 < len0
  · go_enter Try.func5, Try.ntmps5
    go_wp2_with (go_at_call 12; refine (awake_any _).mono ?_; rintro e w1 ⟨rfl, hb⟩)
    go_ret
    exact ⟨rfl, hb⟩
  · have H := Lib.hid h
    have HL := Lib.hid h.length
    have HX := Lib.hid hl
    have H1 := Lib.hid hz1
    have H2 := Lib.hid hz2
    have H3 := Lib.hid hz3
    have HL1 := Lib.hid hzl1
    have HL2 := Lib.hid hzl2
    have HL3 := Lib.hid hzl3
    have hl0 : (len0 : Int) ≤ 200 := by omega
    clear h hl hz1 hz2 hz3 hzl1 hzl2 hzl3
    go_enter Try.func5, Try.ntmps5
    go_upto_block 0 with fail
    go_cut [13, 14] (fun s13 s14 wx => ∃ (A : Option Addr) (n c : Nat) (A' : Option Addr) (n' c' : Nat) (L : List Nat), s13 = .slice A n c ∧ s14 = .slice A' n' c' ∧ Both w wx A n A' n' L ∧ n ≤ 300 ∧ n ≤ c ∧ c ≤ maxLen)
    case first =>
      go_wp2_with fail
      go_loopw [13, 14, 15] (fun s13 s14 s15 wr => ∃ (k : Nat) (A : Option Addr) (n c : Nat) (A' : Option Addr) (n' c' : Nat) (L : List Nat), k ≤ 10 ∧ s15 = .int .i64 k ∧ s13 = .slice A n c ∧ s14 = .slice A' n' c' ∧ Both w wr A n A' n' L ∧ L.length ≤ 30 * k ∧ n ≤ c ∧ Hid (c ≤ maxLen)) (fun _ _ i _ => 10 - (intOf i).toNat)
      case atStart => exact ⟨0, _, 0, 0, _, 0, 0, [], by omega, rfl, rfl, rfl, ⟨RdT.none_ _ _ _, RdT.none_ _ _ _, (fun x hx => by cases hx), ((Below.refl _ _).alloc (Nat.le_refl _) _).alloc (by simp) _⟩, by simp, by omega, Lib.hid (by unfold maxLen; omega)⟩
      case round =>
        obtain ⟨k, A, n, c, A', n', c', L, hk, rfl, rfl, rfl, hboth, hLl, hnc, hcm⟩ := hrel
        by_cases hlt : k < len1 ∧ k < 10
        · obtain ⟨hk1, hk10⟩ := hlt
          obtain ⟨hb, hb', hLx, hB⟩ := hboth
          obtain ⟨g, o, rfl, hxx⟩ := H1.out.int_at hk1
          clear hxx
          obtain ⟨z, hzk⟩ : ∃ z, ns[k]? = some z := ⟨_, List.getElem?_eq_getElem (by have := HL1.out; omega)⟩
          have hc1 := (H1.out.below hB).int_cell hk1 hzk
          have hk0 : (0 : Int) ≤ (k : Int) := by omega
          have hk2 : (k : Int) < (len1 : Int) := by omega
          have e1 := and_1 z
          have e3 := and_3 (k : Int)
          obtain ⟨d1, hd1⟩ : ∃ d : Bool, (z % 2 == 0) = d := ⟨_, rfl⟩
          obtain ⟨d3, hd3⟩ : ∃ d : Bool, ((k : Int) % 4 == 3) = d := ⟨_, rfl⟩
          have HZ := Lib.hid hzk
          clear hzk
          have hk3 : (k : Int) < 10 := by omega
          have hnL : n ≤ 270 := by have := hb.rd.length; omega
          have hnL' : n' ≤ 270 := by have := hb'.rd.length; omega
          have HcM := hcm
          clear hcm
          cases d1
          all_goals
            go_wp2_with fail
            refine (put_in (W := w) (l := L) (by unfold Lim; omega) hb.rd hB rfl).mono ?_
            rintro e w2 ⟨A2, n2, c2, rfl, hown2, HB2, hb2⟩
            go_wp2_with fail
            refine (ref_in (W := w) (l := L) (by unfold Lim; omega) (hb'.below hb2).rd HB2 rfl).mono ?_
            rintro e w3 ⟨A3, n3, c3, rfl, hown3, HB3, hb3⟩
            obtain ⟨L2, hB2, hL2, hnc2, hcm2⟩ := both_num (Pk.held_le _) hLx hown2 hb3 hown3 HB3
            clear hown2 hown3 hb2 hb3 HB2 hb hb' hB hc1
            cases d3
            case false =>
              go_wp2_with fail
              go_roundw
              case rel => exact ⟨k + 1, A2, n2, c2, A3, n3, c3, L2, by omega, by go_num, rfl, rfl, hB2, by omega, hnc2, hcm2⟩
              case measure => simp [intOf]; omega
            case true =>
              obtain ⟨hb2', hb3', hL2x, _⟩ := hB2
              obtain ⟨m, hm1, hm2, hmin⟩ : ∃ m : Nat, m ≤ len0 ∧ m ≤ 10 ∧ ∀ (w : World) ts t, (Builtin.min_ ts t #[.int .i64 (len0 : Int), .int .i64 (k : Int)]).run Try.prog w = .ok (.int .i64 (m : Int)) w := ⟨min len0 k, by omega, by omega, fun w ts t => run_min_nat w ts t len0 k⟩
              obtain ⟨i, hi1, hi2, hi3, hi4⟩ := info_parts byteT.info
              have hsl := run_slice_to (P := Try.prog) (t := 26) byteT.under hi1 a0 len0 cap0 m (by omega)
              have hlim2 : Lim 20 (L2.length + (l.take m).length) := by have := HL.out; rw [List.length_take]; unfold Lim; omega
              have HXm := Lib.hid (show (l.take m).length ≤ 10 ∧ ∀ y ∈ l.take m, y < 256 from ⟨by rw [List.length_take]; omega, fun y hy => HX.out y (List.mem_of_mem_take hy)⟩)
              clear hi1 hi2 hi3 hi4
              go_upto_region 12 with fail
              refine wp_region_any (by kernel_rfl) ?_
              change wpAny _ _ _ _ _ _ _ w3.drew
              have q2 : RdT w3.drew 5 A2 n2 (bv L2) := hb2'
              have q3 : RdT w3.drew 5 A3 n3 (bv L2) := hb3'
              have HB3' := HB3.drew
              clear hb2' hb3' HB3
              generalize w3.drew = w6 at q2 q3 HB3' ⊢
              refine wpAny_take (i := 0) (v := .slice A2 n2 c2) rfl (by kernel_rfl) (by kernel_rfl) (by kernel_rfl) (fun _ _ _ h => h) (Or.inl ⟨by kernel_rfl, fun w => by go_simp⟩) ?_
              refine wpAny_take (i := 1) (v := .slice a0 len0 cap0) rfl (by kernel_rfl) (by kernel_rfl) (by kernel_rfl) (fun _ _ _ h => h) (Or.inl ⟨by kernel_rfl, fun w => by go_simp⟩) ?_
              refine wpAny_take (i := 2) (v := .slice a0 len0 cap0) rfl (by kernel_rfl) (by kernel_rfl) (by kernel_rfl) (fun _ _ _ h => h) (Or.inl ⟨by kernel_rfl, fun w => by go_simp⟩) ?_
              refine wpAny_take (i := 3) (v := .int .i64 len0) rfl (by kernel_rfl) (by kernel_rfl) (by kernel_rfl) (fun _ _ _ h => h) (Or.inl ⟨by kernel_rfl, fun w => by go_simp⟩) ?_
              refine wpAny_take (i := 4) (v := .int .i64 k) rfl (by kernel_rfl) (by kernel_rfl) (by kernel_rfl) (fun _ _ _ h => h) (Or.inl ⟨by kernel_rfl, fun w => by go_simp⟩) ?_
              refine wpAny_take (i := 5) (v := .int .i64 m) rfl (by kernel_rfl) (by kernel_rfl) (by kernel_rfl) (fun _ _ _ h => h) (Or.inl ⟨by kernel_rfl, fun w => by go_simp⟩) ?_
              refine wpAny_take (i := 6) (v := .slice a0 m cap0) rfl (by kernel_rfl) (by kernel_rfl) (by kernel_rfl) (fun _ _ _ h => h) (Or.inl ⟨by kernel_rfl, fun w => by go_simp⟩) ?_
              refine wpAny_take (i := 8) (v := .slice A3 n3 c3) rfl (by kernel_rfl) (by kernel_rfl) (by kernel_rfl) (fun _ _ _ h => h) (Or.inl ⟨by kernel_rfl, fun w => by go_simp⟩) ?_
              refine wpAny_take (i := 9) (v := .slice a0 len0 cap0) rfl (by kernel_rfl) (by kernel_rfl) (by kernel_rfl) (fun _ _ _ h => h) (Or.inl ⟨by kernel_rfl, fun w => by go_simp⟩) ?_
              refine wpAny_take (i := 10) (v := .slice a0 len0 cap0) rfl (by kernel_rfl) (by kernel_rfl) (by kernel_rfl) (fun _ _ _ h => h) (Or.inl ⟨by kernel_rfl, fun w => by go_simp⟩) ?_
              refine wpAny_take (i := 11) (v := .int .i64 len0) rfl (by kernel_rfl) (by kernel_rfl) (by kernel_rfl) (fun _ _ _ h => h) (Or.inl ⟨by kernel_rfl, fun w => by go_simp⟩) ?_
              refine wpAny_take (i := 12) (v := .int .i64 k) rfl (by kernel_rfl) (by kernel_rfl) (by kernel_rfl) (fun _ _ _ h => h) (Or.inl ⟨by kernel_rfl, fun w => by go_simp⟩) ?_
              refine wpAny_take (i := 13) (v := .int .i64 m) rfl (by kernel_rfl) (by kernel_rfl) (by kernel_rfl) (fun _ _ _ h => h) (Or.inl ⟨by kernel_rfl, fun w => by go_simp⟩) ?_
              refine wpAny_take (i := 14) (v := .slice a0 m cap0) rfl (by kernel_rfl) (by kernel_rfl) (by kernel_rfl) (fun _ _ _ h => h) (Or.inl ⟨by kernel_rfl, fun w => by go_simp⟩) ?_
              refine wpAny_ready (rs := [7]) (by kernel_rfl) (by simp) ?_
              refine AllReady.cons rfl (fun K hK => ?_) AllReady.nil
              go_simp
              refine (putb_in (W := w) (l := L2) (x := l.take m) q2.rd (by rw [bv_take]; exact (H.out.below HB3').take hm1) hlim2 HB3' rfl).mono ?_
              rintro e w4 ⟨A4, n4, c4, rfl, hown4, HB4, hb4⟩
              go_simp
              refine hK _ _ ?_
              clear hK K
              refine wpAny_ready (rs := [15]) (by kernel_rfl) (by simp) ?_
              refine AllReady.cons rfl (fun K hK => ?_) AllReady.nil
              go_simp
              refine (refb_in (W := w) (l := L2) (x := l.take m) (q3.below hb4).rd (by rw [bv_take]; exact (H.out.below HB4).take hm1) hlim2 HB4 rfl).mono ?_
              rintro e w5 ⟨A5, n5, c5, rfl, hown5, HB5, hb5⟩
              go_simp
              refine hK _ _ ?_
              clear hK K
              refine wpAny_ready (rs := [16]) (by kernel_rfl) (by simp) ?_
              refine AllReady.cons rfl (fun K hK => ?_) AllReady.nil
              go_simp
              refine hK _ _ ?_
              clear hK K
              refine wpAny_ready (rs := [17]) (by kernel_rfl) (by simp) ?_
              refine AllReady.cons rfl (fun K hK => ?_) AllReady.nil
              go_simp
              refine hK _ _ ?_
              clear hK K
              refine wpAny_done (by kernel_rfl) ?_ _
              obtain ⟨L4, hB4, hL4, hnc4, hcm4⟩ := both_byt HXm.out.1 HXm.out.2 hL2x hown4 hb5 hown5 HB5
              clear hown4 hown5 hb4 hb5 HB4 q2 q3 HB3'
              go_wp2_with fail
              go_roundw
              case rel => exact ⟨k + 1, A4, n4, c4, A5, n5, c5, L4, by omega, by go_num, rfl, rfl, hB4, by omega, hnc4, hcm4⟩
              case measure => simp [intOf]; omega
        · by_cases hk1 : k < len1
          · have hk3 : ¬ (k : Int) < 10 := by omega
            go_wp2_with fail
            go_meet
            exact ⟨A, n, c, A', n', c', L, rfl, rfl, hboth, by have := hboth.1.rd.length; omega, hnc, hcm.out⟩
          · go_wp2_with fail
            go_meet
            exact ⟨A, n, c, A', n', c', L, rfl, rfl, hboth, by have := hboth.1.rd.length; omega, hnc, hcm.out⟩
    case rest =>
      obtain ⟨A, n, c, A', n', c', L, rfl, rfl, ⟨hb, hb', hLx, hB⟩, hn, hnc, hcm⟩ := hcut
      rename World => wf
      have hcb := awake_str (c := c) hb.rd
      have hcw := awake_str (c := c') hb'.rd
      have hself := strB_self L
      have hself2 : (strB L != strB L) = false := by simp [bne, hself]
      have HLx := Lib.hid hLx
      have HCM := Lib.hid hcm
      have hnL := Lib.hid hb.rd.length
      have q1 : Rd wf w.heap.size a0 len0 (bv l) := H.out.below hB
      have q2 := hb.rd
      clear hb hb' hLx hcm
      go_upto_region 15 with fail
      clear hcb hcw hself hself2
      have hB0 : Below wf.heap.size wf wf := Below.refl _ _
      go_upto_if 85 with (first
        | (at_builtin
           refine wpList_append_bytes (W := wf) byteT (.tmp 80) (.tmp 81) rfl (by rfl) rfl (own_empty hB0 5) rfl (q2.alloc (Nat.le_refl _) _) (by omega) (hB0.alloc (Nat.le_refl _) _) ?_
           intro A1 c1 w1 hown1 hr1 hB1
           simp only [Nat.zero_add, List.nil_append] at hown1 hr1)
        | fail)
      go_cut [17] (fun s17 wx => ∃ (Ac : Option Addr) (cc : Nat) (L2 : List Nat), s17 = .slice Ac n cc ∧ Rd wx wx.heap.size Ac n (bv L2) ∧ (∀ x ∈ L2, x < 256) ∧ Below wf.heap.size wf wx ∧ n ≤ cc ∧ cc ≤ maxLen)
      case first =>
        by_cases hn0 : n = 0
        · have hn1 : ¬ (0 < (n : Int)) := by omega
          clear hn0
          go_wp2_with fail
          go_meet
          exact ⟨A1, c1, L, rfl, hr1, HLx.out, hB1, (own_cap hown1).1, (own_cap hown1).2⟩
        · have hn1 : 0 < (n : Int) := by omega
          have e4 := and_ffff a4
          obtain ⟨j, hj1, hj2⟩ : ∃ j : Nat, (a4 % 65536).tmod (n : Int) = (j : Int) ∧ j < n := by
            rw [Int.tmod_eq_emod_of_nonneg (by omega)]
            have h1 := Int.emod_nonneg (a4 % 65536) (show (n : Int) ≠ 0 by omega)
            have h2 := Int.emod_lt_of_pos (a4 % 65536) hn1
            exact ⟨((a4 % 65536) % (n : Int)).toNat, by omega, by omega⟩
          obtain ⟨g, rfl, hg1, hg2⟩ := own_addr hown1 (by omega)
          have hcell := own_byte hown1 hj2
          have hfr := hown1.frozenAt j
          have hj0 : (0 : Int) ≤ (j : Int) := by omega
          have hjn : (j : Int) < (n : Int) := by omega
          have HS := Lib.hid (own_set hown1 j y)
          have HSB := Lib.hid (hB1.setCell (p := ⟨g, j, none⟩) hg1 (.int .u8 (y : Int)))
          have HC := Lib.hid (own_cap hown1)
          clear hn0 hown1 hr1 hB1
          go_wp2_with fail
          go_meet
          exact ⟨_, c1, L.set j y, rfl, Rd.own_ HS.out, fun x hx => by
            rcases List.mem_or_eq_of_mem_set hx with hx | rfl
            · exact HLx.out x hx
            · exact hy, HSB.out, HC.out.1, HC.out.2⟩
      case rest =>
        obtain ⟨Ac, cc, L2, rfl, q4, hL2x, hBc, hncc, hccm⟩ := hcut
        rename World => wg
        clear hown1 hr1 hB1
        have HL2x := Lib.hid hL2x
        have HCC := Lib.hid hccm
        have p1 := q1.below (hBc.mono hB.size)
        have p2 := q2.below hBc
        have HB2 := Lib.hid (hB.trans (hBc.mono hB.size))
        obtain ⟨q, hq1, hq2⟩ : ∃ q : Nat, (n : Int) / 2 = (q : Int) ∧ q ≤ n := ⟨n / 2, by omega, by omega⟩
        have hqc : (q : Int) ≤ (c : Int) := by omega
        obtain ⟨i, hi1, hi2, hi3, hi4⟩ := info_parts byteT.info
        have hsl := run_slice_to (P := Try.prog) (t := 26) byteT.under hi1 A n c q (by omega)
        clear hL2x hccm q1 q2 hBc hi1 hi2 hi3 hi4
        go_upto_region 18 with fail
        refine wp_region_any (by kernel_rfl) ?_
        change wpAny _ _ _ _ _ _ _ wg.drew
        have q1 : Rd wg.drew wg.drew.heap.size a0 len0 (bv l) := p1.fit
        have q2 : Rd wg.drew wg.drew.heap.size A n (bv L) := p2.fit
        have q3 : Rd wg.drew wg.drew.heap.size Ac n (bv L2) := q4.fit
        have HBg := HB2.out.drew
        clear p1 p2 q4 HB2
        generalize wg.drew = w7 at q1 q2 q3 HBg ⊢
        refine wpAny_take (i := 0) (v := .slice a0 len0 cap0) rfl (by kernel_rfl) (by kernel_rfl) (by kernel_rfl) (fun _ _ _ h => h) (Or.inl ⟨by kernel_rfl, fun w => by go_simp⟩) ?_
        refine wpAny_take (i := 1) (v := .slice A n c) rfl (by kernel_rfl) (by kernel_rfl) (by kernel_rfl) (fun _ _ _ h => h) (Or.inl ⟨by kernel_rfl, fun w => by go_simp⟩) ?_
        refine wpAny_take (i := 2) (v := .slice Ac n cc) rfl (by kernel_rfl) (by kernel_rfl) (by kernel_rfl) (fun _ _ _ h => h) (Or.inl ⟨by kernel_rfl, fun w => by go_simp⟩) ?_
        refine wpAny_take (i := 3) (v := .slice A n c) rfl (by kernel_rfl) (by kernel_rfl) (by kernel_rfl) (fun _ _ _ h => h) (Or.inl ⟨by kernel_rfl, fun w => by go_simp⟩) ?_
        refine wpAny_take (i := 4) (v := .slice A n c) rfl (by kernel_rfl) (by kernel_rfl) (by kernel_rfl) (fun _ _ _ h => h) (Or.inl ⟨by kernel_rfl, fun w => by go_simp⟩) ?_
        refine wpAny_take (i := 5) (v := .int .i64 n) rfl (by kernel_rfl) (by kernel_rfl) (by kernel_rfl) (fun _ _ _ h => h) (Or.inl ⟨by kernel_rfl, fun w => by go_simp⟩) ?_
        refine wpAny_take (i := 6) (v := .int .i64 q) rfl (by kernel_rfl) (by kernel_rfl) (by kernel_rfl) (fun _ _ _ h => h) (Or.inl ⟨by kernel_rfl, fun w => by go_simp; exact IntWalk.i64_in _ (by omega)⟩) ?_
        refine wpAny_take (i := 7) (v := .slice A q c) rfl (by kernel_rfl) (by kernel_rfl) (by kernel_rfl) (fun _ _ _ h => h) (Or.inl ⟨by kernel_rfl, fun w => by go_simp⟩) ?_
        refine wpAny_take (i := 9) (v := .slice A n c) rfl (by kernel_rfl) (by kernel_rfl) (by kernel_rfl) (fun _ _ _ h => h) (Or.inl ⟨by kernel_rfl, fun w => by go_simp⟩) ?_
        refine wpAny_take (i := 11) (v := .slice a0 len0 cap0) rfl (by kernel_rfl) (by kernel_rfl) (by kernel_rfl) (fun _ _ _ h => h) (Or.inl ⟨by kernel_rfl, fun w => by go_simp⟩) ?_
        refine wpAny_take (i := 15) (v := .int .i64 0) rfl (by kernel_rfl) (by kernel_rfl) (by kernel_rfl) (fun _ _ _ h => h) (Or.inl ⟨by kernel_rfl, fun w => by go_simp⟩) ?_
        refine wpAny_ready (rs := [8]) (by kernel_rfl) (by simp) ?_
        refine AllReady.cons rfl (fun K hK => ?_) AllReady.nil
        go_simp
        refine hK _ _ ?_
        clear hK K
        refine wpAny_ready (rs := [10]) (by kernel_rfl) (by simp) ?_
        refine AllReady.cons rfl (fun K hK => ?_) AllReady.nil
        rw [if_pos (by kernel_rfl)]
        refine wp_append_bytes (W := w7) (l := []) (l' := L) (A := some ⟨w7.heap.size, 0, none⟩) (n := 0) (c := 0) (A' := A) (m := n) (c' := c) byteT (.tmp 102) (.tmp 103) rfl (by kernel_rfl) (own_empty (Below.refl _ _) 5) (by kernel_rfl) (q2.alloc (Nat.le_refl _) _) (by omega) ((Below.refl _ _).alloc (Nat.le_refl _) _) ?_
        intro A8 c8 w8 hown8 HB8
        simp only [Nat.zero_add, List.nil_append] at hown8
        refine hK _ _ ?_
        clear hK K
        refine wpAny_ready (rs := [12]) (by kernel_rfl) (by simp) ?_
        refine AllReady.cons rfl (fun K hK => ?_) AllReady.nil
        rw [if_pos (by kernel_rfl)]
        refine wp_append_bytes (W := w7) (l := L) (l' := l) (A := A8) (n := 0 + n) (c := c8) (A' := a0) (m := len0) (c' := cap0) byteT (.tmp 104) (.tmp 105) rfl (by kernel_rfl) (by rw [Nat.zero_add]; exact hown8) (by kernel_rfl) (q1.below HB8) (by omega) HB8 ?_
        intro A9 c9 w9 hown9 HB9
        rw [Nat.zero_add] at hown9
        refine hK _ _ ?_
        clear hK K
        refine wpAny_ready (rs := [13]) (by kernel_rfl) (by simp) ?_
        refine AllReady.cons rfl (fun K hK => ?_) AllReady.nil
        go_simp
        refine hK _ _ ?_
        clear hK K
        refine wpAny_ready (rs := [14]) (by kernel_rfl) (by simp) ?_
        refine AllReady.cons rfl (fun K hK => ?_) AllReady.nil
        go_simp
        refine hK _ _ ?_
        clear hK K
        refine wpAny_done (by kernel_rfl) ?_ _
        have e9 : (Rd w9 w9.heap.size A9 (n + len0) (bv (L ++ l))) := Rd.own_ hown9
        have hEl : ∀ j, j < 5 → Elem (w9.alloc (.cells #[.slice a0 len0 cap0, .slice A n c, .slice Ac n cc, .slice A q c, .slice A9 (n + len0) c9] 26)) w9.heap.size j := by
          have hC := Blk.new w9 26 #[.slice a0 len0 cap0, .slice A n c, .slice Ac n cc, .slice A q c, .slice A9 (n + len0) c9]
          have s1 := ((q1.below HB9).fit.alloc (Nat.le_refl _) (.cells #[.slice a0 len0 cap0, .slice A n c, .slice Ac n cc, .slice A q c, .slice A9 (n + len0) c9] 26)).fit
          have s2 := ((q2.below HB9).fit.alloc (Nat.le_refl _) (.cells #[.slice a0 len0 cap0, .slice A n c, .slice Ac n cc, .slice A q c, .slice A9 (n + len0) c9] 26)).fit
          have s3 := ((q3.below HB9).fit.alloc (Nat.le_refl _) (.cells #[.slice a0 len0 cap0, .slice A n c, .slice Ac n cc, .slice A q c, .slice A9 (n + len0) c9] 26)).fit
          have s4 := s2.take hq2
          rw [← bv_take] at s4
          have s5 := (e9.alloc (Nat.le_refl _) (.cells #[.slice a0 len0 cap0, .slice A n c, .slice Ac n cc, .slice A q c, .slice A9 (n + len0) c9] 26)).fit
          intro j hj
          have hj5 : j = 0 ∨ j = 1 ∨ j = 2 ∨ j = 3 ∨ j = 4 := by omega
          rcases hj5 with rfl | rfl | rfl | rfl | rfl
          · exact ⟨_, _, _, l, hC.cell 0, s1, HX.out, hle, hc0m.out, by unfold Lim; omega⟩
          · exact ⟨_, _, _, L, hC.cell 1, s2, HLx.out, hnc, HCM.out, by unfold Lim; omega⟩
          · exact ⟨_, _, _, L2, hC.cell 2, s3, HL2x.out, hncc, HCC.out, by unfold Lim; omega⟩
          · exact ⟨_, _, _, L.take q, hC.cell 3, s4, fun x hx => HLx.out x (List.mem_of_mem_take hx), by omega, HCM.out, by unfold Lim; omega⟩
          · exact ⟨_, _, _, L ++ l, hC.cell 4, s5, fun x hx => by
              rcases List.mem_append.1 hx with hx | hx
              · exact HLx.out x hx
              · exact HX.out x hx, (own_cap hown9).1, (own_cap hown9).2, by unfold Lim; omega⟩
        have HBz := Lib.hid ((HBg.trans (HB9.mono HBg.size)).alloc (by have h1 := HBg.size; have h2 := HB9.size; omega) (.cells #[.slice a0 len0 cap0, .slice A n c, .slice Ac n cc, .slice A q c, .slice A9 (n + len0) c9] 26))
        have HEl := Lib.hid hEl
        clear hEl e9 hown9 HB9 hown8 HB8 q1 q2 q3 HBg hsl
        generalize (w9.alloc (.cells #[.slice a0 len0 cap0, .slice A n c, .slice Ac n cc, .slice A q c, .slice A9 (n + len0) c9] 26)) = wz at HBz HEl ⊢
        go_wp2_with fail
        go_loopw [109] (fun s109 wr => ∃ j : Nat, j ≤ 5 ∧ s109 = .int .i64 j ∧ Below wz.heap.size wz wr) (fun i _ => 5 - (intOf i).toNat)
        case atStart => exact ⟨0, by omega, rfl, Below.refl _ _⟩
        case round =>
          obtain ⟨j, hj, rfl, HBj⟩ := hrel
          by_cases hj5 : j < 5
          · obtain ⟨Ax, nx, cx, Lx, hcx, hrx, hLxx, hncx, hcmx, hlx⟩ := HEl.out j hj5
            have hcj : wr.cell? ⟨w9.heap.size, j, none⟩ = some (.slice Ax nx cx) := (HBj.cell (World.block_lt_of_cell? _ _ hcx)).trans hcx
            have hj0 : (0 : Int) ≤ (j : Int) := by omega
            have hj6 : (j : Int) < 5 := by omega
            have HCX := Lib.hid hcmx
            have HLX := Lib.hid hLxx
            have HRX := Lib.hid hrx
            clear hcx hcmx hLxx hrx
            go_wp2_with fail
            refine (read_in (W := wz) (l := Lx) hlx HLX.out (HRX.out.below HBj) HBj).mono ?_
            rintro e w2 ⟨r, rfl, hr2, hrz, _, HB2, _⟩
            have hsz : wz.heap.size ≤ w2.heap.size := HB2.size
            have hsr : w2.heap.size ≠ r := by have := hr2.lt; omega
            have hp0 : Pair wz (w2.alloc (.cells #[.slice Ax nx cx, .bool false] 39)) r w2.heap.size (some Lx) :=
              ⟨hr2.below ((Below.refl _ _).alloc (Nat.le_refl _) _), ⟨Ax, nx, cx, Blk.new _ _ _, hncx, HCX.out, hlx, hsz, fun l' hl' => by
                injection hl' with hl'
                subst hl'
                exact ⟨HRX.out.below (HB2.alloc hsz _), HLX.out⟩⟩, HB2.alloc hsz _⟩
            clear hcj hr2
            go_wp2_with fail
            generalize w2.heap.size = s at hsz hsr hp0 ⊢
            go_loopw [22] (fun s22 wr => ∃ (i : Nat) (st : Pk.St), i ≤ 20 ∧ s22 = .int .i64 i ∧ Pair wz wr r s st) (fun i _ => 20 - (intOf i).toNat)
            case atStart => exact ⟨0, _, by omega, rfl, hp0⟩
            case round =>
              clear hp0 HB2
              obtain ⟨i, st, hi, rfl, hp⟩ := hrel
              by_cases hin : i < len2 ∧ i < len3 ∧ i < 20
              · obtain ⟨hi2, hi3, hi20⟩ := hin
                obtain ⟨g2, o2, rfl, hxx⟩ := H2.out.int_at hi2
                clear hxx
                obtain ⟨g3, o3, rfl, hxx⟩ := H3.out.int_at hi3
                clear hxx
                obtain ⟨av, hak⟩ : ∃ z, ac[i]? = some z := ⟨_, List.getElem?_eq_getElem (by have := HL2.out; omega)⟩
                obtain ⟨m, hmk⟩ : ∃ z, bs[i]? = some z := ⟨_, List.getElem?_eq_getElem (by have := HL3.out; omega)⟩
                have hca := (H2.out.below (HBz.out.trans (hp.2.2.mono HBz.out.size))).int_cell hi2 hak
                have hcb := (H3.out.below (HBz.out.trans (hp.2.2.mono HBz.out.size))).int_cell hi3 hmk
                have HM := Lib.hid hmk
                have hi0 : (0 : Int) ≤ (i : Int) := by omega
                have hi4 : (i : Int) < (len2 : Int) := by omega
                have hi5 : (i : Int) < (len3 : Int) := by omega
                have hi6 : (i : Int) < 20 := by omega
                have e3 := and_3 av
                obtain ⟨d, hd⟩ : ∃ d : Bool, (av % 4 == 0) = d := ⟨_, rfl⟩
                have hself2 : (strB (Pk.bytV st m) != strB (Pk.bytV st m)) = false := by simp [bne, strB_self]
                clear hak hmk
                cases d
                case false =>
                  go_upto_region 30 with fail
                  have hS0 : wr.drew.cell? ⟨g3, o3 + i, none⟩ = some (.int .i64 m) := hcb
                  refine wp_region_held_drew (S := fun w' => w'.cell? ⟨g3, o3 + i, none⟩ = some (.int .i64 m)) (by kernel_rfl) hS0 (fun _ => ?_)
                  obtain ⟨hrr, hss, HBr⟩ := hp
                  have hr4 : RdrAt wr.drew r st := hrr
                  have hs4 : RefAt wr.drew wz.heap.size s st := hss
                  have HB4 := HBr.drew
                  clear hrr hss HBr hca hcb
                  generalize wr.drew = w4 at hr4 hs4 HB4 hS0 ⊢
                  have hS := Lib.hid hS0
                  clear hS0
                  refine wpAnyH_take (i := 0) (v := .pointer (some ⟨r, 0, none⟩)) rfl (by kernel_rfl) (by kernel_rfl) (by kernel_rfl) (fun _ _ _ h => h) (Or.inl ⟨by kernel_rfl, fun w _ => by go_simp⟩) hS.out ?_
                  refine wpAnyH_take (i := 1) (v := .slice (some ⟨g3, o3, none⟩) len3 cap3) rfl (by kernel_rfl) (by kernel_rfl) (by kernel_rfl) (fun _ _ _ h => h) (Or.inl ⟨by kernel_rfl, fun w _ => by go_simp⟩) hS.out ?_
                  refine wpAnyH_take (i := 2) (v := .int .i64 i) rfl (by kernel_rfl) (by kernel_rfl) (by kernel_rfl) (fun _ _ _ h => h) (Or.inl ⟨by kernel_rfl, fun w _ => by go_simp⟩) hS.out ?_
                  refine wpAnyH_take (i := 3) (v := .pointer (some ⟨g3, o3 + i, none⟩)) rfl (by kernel_rfl) (by kernel_rfl) (by kernel_rfl) (fun _ _ _ h => h) (Or.inl ⟨by kernel_rfl, fun w _ => by go_simp⟩) hS.out ?_
                  refine wpAnyH_take (i := 6) (v := .pointer (some ⟨s, 0, none⟩)) rfl (by kernel_rfl) (by kernel_rfl) (by kernel_rfl) (fun _ _ _ h => h) (Or.inl ⟨by kernel_rfl, fun w _ => by go_simp⟩) hS.out ?_
                  refine wpAnyH_take (i := 7) (v := .slice (some ⟨g3, o3, none⟩) len3 cap3) rfl (by kernel_rfl) (by kernel_rfl) (by kernel_rfl) (fun _ _ _ h => h) (Or.inl ⟨by kernel_rfl, fun w _ => by go_simp⟩) hS.out ?_
                  refine wpAnyH_take (i := 8) (v := .int .i64 i) rfl (by kernel_rfl) (by kernel_rfl) (by kernel_rfl) (fun _ _ _ h => h) (Or.inl ⟨by kernel_rfl, fun w _ => by go_simp⟩) hS.out ?_
                  refine wpAnyH_take (i := 9) (v := .pointer (some ⟨g3, o3 + i, none⟩)) rfl (by kernel_rfl) (by kernel_rfl) (by kernel_rfl) (fun _ _ _ h => h) (Or.inl ⟨by kernel_rfl, fun w _ => by go_simp⟩) hS.out ?_
                  refine wpAnyH_take (i := 4) (v := .int .i64 m) rfl (by kernel_rfl) (by kernel_rfl) (by kernel_rfl) (fun _ _ _ h => h) (Or.inl ⟨by kernel_rfl, fun w h => by go_simp⟩) hS.out ?_
                  refine wpAnyH_take (i := 10) (v := .int .i64 m) rfl (by kernel_rfl) (by kernel_rfl) (by kernel_rfl) (fun _ _ _ h => h) (Or.inl ⟨by kernel_rfl, fun w h => by go_simp⟩) hS.out ?_
                  refine wpAnyH_ready (rs := [5]) (by kernel_rfl) (by simp) ?_
                  refine AllReadyH.cons rfl (fun K hK => ?_) AllReadyH.nil
                  go_simp
                  refine (num_in (W := wz) hr4 HB4 hrz rfl rfl).mono ?_
                  rintro e w5 ⟨rfl, hr5, HB5, ho5⟩
                  have hS := Lib.hid ((H3.out.below (HBz.out.trans (HB5.mono HBz.out.size))).int_cell hi3 HM.out)
                  have hs5 := hs4.only ho5 hrz hsr
                  clear ho5 hr4 hs4 HB4
                  go_simp
                  refine hK.out _ _ hS.out (fun _ => ?_)
                  clear hK K
                  refine wpAnyH_ready (rs := [11]) (by kernel_rfl) (by simp) ?_
                  refine AllReadyH.cons rfl (fun K hK => ?_) AllReadyH.nil
                  go_simp
                  refine (refnum_in (W := wz) hs5 HB5 hsz).mono ?_
                  rintro e w6 ⟨rfl, hs6, HB6, ho6⟩
                  have hS := Lib.hid ((H3.out.below (HBz.out.trans (HB6.mono HBz.out.size))).int_cell hi3 HM.out)
                  have hr6 : RdrAt w6 r (Pk.numS st m) := by
                    obtain ⟨cs, hbk⟩ := hs5.blk
                    exact hr5.grown ho6 hbk (by decide) (Ne.symm hsr)
                  clear ho6 hr5 hs5 HB5
                  go_simp
                  refine hK.out _ _ hS.out (fun _ => ?_)
                  clear hK K
                  refine wpAnyH_ready (rs := [12]) (by kernel_rfl) (by simp) ?_
                  refine AllReadyH.cons rfl (fun K hK => ?_) AllReadyH.nil
                  go_simp
                  refine hK.out _ _ hS.out (fun _ => ?_)
                  clear hK K
                  refine wpAnyH_done (by kernel_rfl) ?_ _
                  have hpair : Pair wz w6 r s (Pk.numS st m) := ⟨hr6, hs6, HB6⟩
                  obtain ⟨st', hst'⟩ : ∃ st', st' = Pk.numS st m := ⟨_, rfl⟩
                  rw [← hst'] at hpair
                  clear hst' hr6 hs6 HB6
                  go_upto_region 32 with fail
                  obtain ⟨hr6, hs6, HB6⟩ := hpair
                  have hS0 : w6.drew.cell? ⟨s, 1, none⟩ = some (.bool st'.isNone) := hs6.flag
                  refine wp_region_held_drew (S := fun w' => w'.cell? ⟨s, 1, none⟩ = some (.bool st'.isNone)) (by kernel_rfl) hS0 (fun _ => ?_)
                  have hr8 : RdrAt w6.drew r st' := hr6
                  have hs8 : RefAt w6.drew wz.heap.size s st' := hs6
                  have HB8 := HB6.drew
                  clear hr6 hs6 HB6
                  generalize w6.drew = w8 at hr8 hs8 HB8 hS0 ⊢
                  have hS := Lib.hid hS0
                  clear hS0
                  refine wpAnyH_take (i := 0) (v := .pointer (some ⟨r, 0, none⟩)) rfl (by kernel_rfl) (by kernel_rfl) (by kernel_rfl) (fun _ _ _ h => h) (Or.inl ⟨by kernel_rfl, fun w _ => by go_simp⟩) hS.out ?_
                  refine wpAnyH_take (i := 2) (v := .pointer (some ⟨s, 0, none⟩)) rfl (by kernel_rfl) (by kernel_rfl) (by kernel_rfl) (fun _ _ _ h => h) (Or.inl ⟨by kernel_rfl, fun w _ => by go_simp⟩) hS.out ?_
                  refine wpAnyH_take (i := 3) (v := .pointer (some ⟨s, 0, none⟩)) rfl (by kernel_rfl) (by kernel_rfl) (by kernel_rfl) (fun _ _ _ h => h) (Or.inl ⟨by kernel_rfl, fun w _ => by go_simp⟩) hS.out ?_
                  refine wpAnyH_take (i := 4) (v := .pointer (some ⟨s, 1, none⟩)) rfl (by kernel_rfl) (by kernel_rfl) (by kernel_rfl) (fun _ _ _ h => h) (Or.inl ⟨by kernel_rfl, fun w _ => by go_simp⟩) hS.out ?_
                  refine wpAnyH_take (i := 5) (v := .bool st'.isNone) rfl (by kernel_rfl) (by kernel_rfl) (by kernel_rfl) (fun _ _ _ h => h) (Or.inl ⟨by kernel_rfl, fun w h => by go_simp⟩) hS.out ?_
                  refine wpAnyH_take (i := 6) (v := .bool st'.isSome) rfl (by kernel_rfl) (by kernel_rfl) (by kernel_rfl) (fun _ _ _ h => h) (Or.inl ⟨by kernel_rfl, fun w _ => by go_simp; try (cases st' <;> rfl)⟩) hS.out ?_
                  refine wpAnyH_ready (rs := [1]) (by kernel_rfl) (by simp) ?_
                  refine AllReadyH.cons rfl (fun K hK => ?_) AllReadyH.nil
                  go_simp
                  refine (ok_any w8 r st' hr8).mono ?_
                  rintro e w9 ⟨rfl, rfl⟩
                  go_simp
                  refine hK.out _ _ hS.out (fun _ => ?_)
                  clear hK K
                  refine wpAnyH_ready (rs := [7]) (by kernel_rfl) (by simp) ?_
                  refine AllReadyH.cons rfl (fun K hK => ?_) AllReadyH.nil
                  go_simp
                  refine hK.out _ _ hS.out (fun _ => ?_)
                  clear hK K
                  refine wpAnyH_ready (rs := [8]) (by kernel_rfl) (by simp) ?_
                  refine AllReadyH.cons rfl (fun K hK => ?_) AllReadyH.nil
                  go_simp
                  refine hK.out _ _ hS.out (fun _ => ?_)
                  clear hK K
                  refine wpAnyH_take (i := 9) (v := .pointer (some ⟨r, 0, none⟩)) rfl (by kernel_rfl) (by kernel_rfl) (by kernel_rfl) (fun _ _ _ h => h) (Or.inl ⟨by kernel_rfl, fun w _ => by go_simp⟩) hS.out ?_
                  refine wpAnyH_take (i := 11) (v := .pointer (some ⟨s, 0, none⟩)) rfl (by kernel_rfl) (by kernel_rfl) (by kernel_rfl) (fun _ _ _ h => h) (Or.inl ⟨by kernel_rfl, fun w _ => by go_simp⟩) hS.out ?_
                  refine wpAnyH_ready (rs := [10]) (by kernel_rfl) (by simp) ?_
                  refine AllReadyH.cons rfl (fun K hK => ?_) AllReadyH.nil
                  go_simp
                  refine (end_any w8 r st' hr8).mono ?_
                  rintro e w9 ⟨rfl, rfl⟩
                  go_simp
                  refine hK.out _ _ hS.out (fun _ => ?_)
                  clear hK K
                  refine wpAnyH_ready (rs := [12]) (by kernel_rfl) (by simp) ?_
                  refine AllReadyH.cons rfl (fun K hK => ?_) AllReadyH.nil
                  go_simp
                  refine (refend_any w8 wz.heap.size s st' hs8).mono ?_
                  rintro e w9 ⟨rfl, rfl⟩
                  go_simp
                  refine hK.out _ _ hS.out (fun _ => ?_)
                  clear hK K
                  refine wpAnyH_ready (rs := [13]) (by kernel_rfl) (by simp) ?_
                  refine AllReadyH.cons rfl (fun K hK => ?_) AllReadyH.nil
                  go_simp
                  refine hK.out _ _ hS.out (fun _ => ?_)
                  clear hK K
                  refine wpAnyH_ready (rs := [14]) (by kernel_rfl) (by simp) ?_
                  refine AllReadyH.cons rfl (fun K hK => ?_) AllReadyH.nil
                  go_simp
                  refine hK.out _ _ hS.out (fun _ => ?_)
                  clear hK K
                  refine wpAnyH_done (by kernel_rfl) ?_ _
                  go_wp2_with fail
                  go_roundw
                  case rel => exact ⟨i + 1, st', by omega, by go_num, hr8, hs8, HB8⟩
                  case measure => simp [intOf]; omega
                case true =>
                  go_upto_region 28 with fail
                  have hS0 : wr.drew.cell? ⟨g3, o3 + i, none⟩ = some (.int .i64 m) := hcb
                  refine wp_region_held_drew (S := fun w' => w'.cell? ⟨g3, o3 + i, none⟩ = some (.int .i64 m)) (by kernel_rfl) hS0 (fun _ => ?_)
                  obtain ⟨hrr, hss, HBr⟩ := hp
                  have hr4 : RdrAt wr.drew r st := hrr
                  have hs4 : RefAt wr.drew wz.heap.size s st := hss
                  have HB4 := HBr.drew
                  clear hrr hss HBr hca hcb
                  generalize wr.drew = w4 at hr4 hs4 HB4 hS0 ⊢
                  have hS := Lib.hid hS0
                  clear hS0
                  refine wpAnyH_take (i := 0) (v := .pointer (some ⟨r, 0, none⟩)) rfl (by kernel_rfl) (by kernel_rfl) (by kernel_rfl) (fun _ _ _ h => h) (Or.inl ⟨by kernel_rfl, fun w _ => by go_simp⟩) hS.out ?_
                  refine wpAnyH_take (i := 1) (v := .slice (some ⟨g3, o3, none⟩) len3 cap3) rfl (by kernel_rfl) (by kernel_rfl) (by kernel_rfl) (fun _ _ _ h => h) (Or.inl ⟨by kernel_rfl, fun w _ => by go_simp⟩) hS.out ?_
                  refine wpAnyH_take (i := 2) (v := .int .i64 i) rfl (by kernel_rfl) (by kernel_rfl) (by kernel_rfl) (fun _ _ _ h => h) (Or.inl ⟨by kernel_rfl, fun w _ => by go_simp⟩) hS.out ?_
                  refine wpAnyH_take (i := 3) (v := .pointer (some ⟨g3, o3 + i, none⟩)) rfl (by kernel_rfl) (by kernel_rfl) (by kernel_rfl) (fun _ _ _ h => h) (Or.inl ⟨by kernel_rfl, fun w _ => by go_simp⟩) hS.out ?_
                  refine wpAnyH_take (i := 7) (v := .pointer (some ⟨s, 0, none⟩)) rfl (by kernel_rfl) (by kernel_rfl) (by kernel_rfl) (fun _ _ _ h => h) (Or.inl ⟨by kernel_rfl, fun w _ => by go_simp⟩) hS.out ?_
                  refine wpAnyH_take (i := 8) (v := .slice (some ⟨g3, o3, none⟩) len3 cap3) rfl (by kernel_rfl) (by kernel_rfl) (by kernel_rfl) (fun _ _ _ h => h) (Or.inl ⟨by kernel_rfl, fun w _ => by go_simp⟩) hS.out ?_
                  refine wpAnyH_take (i := 9) (v := .int .i64 i) rfl (by kernel_rfl) (by kernel_rfl) (by kernel_rfl) (fun _ _ _ h => h) (Or.inl ⟨by kernel_rfl, fun w _ => by go_simp⟩) hS.out ?_
                  refine wpAnyH_take (i := 10) (v := .pointer (some ⟨g3, o3 + i, none⟩)) rfl (by kernel_rfl) (by kernel_rfl) (by kernel_rfl) (fun _ _ _ h => h) (Or.inl ⟨by kernel_rfl, fun w _ => by go_simp⟩) hS.out ?_
                  refine wpAnyH_take (i := 4) (v := .int .i64 m) rfl (by kernel_rfl) (by kernel_rfl) (by kernel_rfl) (fun _ _ _ h => h) (Or.inl ⟨by kernel_rfl, fun w h => by go_simp⟩) hS.out ?_
                  refine wpAnyH_take (i := 11) (v := .int .i64 m) rfl (by kernel_rfl) (by kernel_rfl) (by kernel_rfl) (fun _ _ _ h => h) (Or.inl ⟨by kernel_rfl, fun w h => by go_simp⟩) hS.out ?_
                  refine wpAnyH_ready (rs := [5]) (by kernel_rfl) (by simp) ?_
                  refine AllReadyH.cons rfl (fun K hK => ?_) AllReadyH.nil
                  go_simp
                  refine (bytes_in (W := wz) hr4 HB4 hrz rfl rfl).mono ?_
                  rintro e w5 ⟨A5, n5, c5, rfl, hown5, hr5, HB5, ho5⟩
                  have hS := Lib.hid ((H3.out.below (HBz.out.trans (HB5.mono HBz.out.size))).int_cell hi3 HM.out)
                  have hs5 := hs4.only ho5 hrz hsr
                  have R5 := RdT.own hown5
                  have hcv5 := awake_str (c := c5) R5.rd
                  have HR5 := Lib.hid R5
                  clear R5 hown5 ho5 hr4 hs4 HB4
                  go_simp
                  refine hK.out _ _ hS.out (fun _ => ?_)
                  clear hK K
                  refine wpAnyH_ready (rs := [6, 12]) (by kernel_rfl) (by simp) ?_
                  refine AllReadyH.cons rfl (fun K hK => ?_) (AllReadyH.cons rfl (fun K hK => ?_) AllReadyH.nil)
                  · go_simp
                    refine hK.out _ _ hS.out (fun _ => ?_)
                    clear hK K
                    refine wpAnyH_ready (rs := [12]) (by kernel_rfl) (by simp) ?_
                    refine AllReadyH.cons rfl (fun K hK => ?_) AllReadyH.nil
                    go_simp
                    refine (refbytes_in (W := wz) hs5 HB5 hsz).mono ?_
                    rintro e w6 ⟨A6, n6, c6, rfl, hown6, hs6, HB6, ho6⟩
                    have hS := Lib.hid ((H3.out.below (HBz.out.trans (HB6.mono HBz.out.size))).int_cell hi3 HM.out)
                    have hr6 : RdrAt w6 r (Pk.bytS st m) := by
                      obtain ⟨cs, hbk⟩ := hs5.blk
                      exact hr5.grown ho6 hbk (by decide) (Ne.symm hsr)
                    have R6 : RdT w6 5 A5 n5 (bv (Pk.bytV st m)) := by
                      obtain ⟨cs, hbk⟩ := hs5.blk
                      exact HR5.out.grown ho6 hbk (by decide)
                    have hcv5' := awake_str (c := c5) R6.rd
                    have hcv6 := awake_str (c := c6) (RdT.own hown6).rd
                    clear R6 hown6 ho6 hr5 hs5 HB5 hcv5
                    go_simp
                    refine hK.out _ _ hS.out (fun _ => ?_)
                    clear hK K
                    refine wpAnyH_ready (rs := [13]) (by kernel_rfl) (by simp) ?_
                    refine AllReadyH.cons rfl (fun K hK => ?_) AllReadyH.nil
                    go_simp
                    refine hK.out _ _ hS.out (fun _ => ?_)
                    clear hK K
                    refine wpAnyH_ready (rs := [14]) (by kernel_rfl) (by simp) ?_
                    refine AllReadyH.cons rfl (fun K hK => ?_) AllReadyH.nil
                    go_simp
                    refine hK.out _ _ hS.out (fun _ => ?_)
                    clear hK K
                    refine wpAnyH_done (by kernel_rfl) ?_ _
                    have hpair : Pair wz w6 r s (Pk.bytS st m) := ⟨hr6, hs6, HB6⟩
                    obtain ⟨st', hst'⟩ : ∃ st', st' = Pk.bytS st m := ⟨_, rfl⟩
                    rw [← hst'] at hpair
                    clear hst' hr6 hs6 HB6 hcv5' hcv6
                    go_upto_region 32 with fail
                    obtain ⟨hr6, hs6, HB6⟩ := hpair
                    have hS0 : w6.drew.cell? ⟨s, 1, none⟩ = some (.bool st'.isNone) := hs6.flag
                    refine wp_region_held_drew (S := fun w' => w'.cell? ⟨s, 1, none⟩ = some (.bool st'.isNone)) (by kernel_rfl) hS0 (fun _ => ?_)
                    have hr8 : RdrAt w6.drew r st' := hr6
                    have hs8 : RefAt w6.drew wz.heap.size s st' := hs6
                    have HB8 := HB6.drew
                    clear hr6 hs6 HB6
                    generalize w6.drew = w8 at hr8 hs8 HB8 hS0 ⊢
                    have hS := Lib.hid hS0
                    clear hS0
                    refine wpAnyH_take (i := 0) (v := .pointer (some ⟨r, 0, none⟩)) rfl (by kernel_rfl) (by kernel_rfl) (by kernel_rfl) (fun _ _ _ h => h) (Or.inl ⟨by kernel_rfl, fun w _ => by go_simp⟩) hS.out ?_
                    refine wpAnyH_take (i := 2) (v := .pointer (some ⟨s, 0, none⟩)) rfl (by kernel_rfl) (by kernel_rfl) (by kernel_rfl) (fun _ _ _ h => h) (Or.inl ⟨by kernel_rfl, fun w _ => by go_simp⟩) hS.out ?_
                    refine wpAnyH_take (i := 3) (v := .pointer (some ⟨s, 0, none⟩)) rfl (by kernel_rfl) (by kernel_rfl) (by kernel_rfl) (fun _ _ _ h => h) (Or.inl ⟨by kernel_rfl, fun w _ => by go_simp⟩) hS.out ?_
                    refine wpAnyH_take (i := 4) (v := .pointer (some ⟨s, 1, none⟩)) rfl (by kernel_rfl) (by kernel_rfl) (by kernel_rfl) (fun _ _ _ h => h) (Or.inl ⟨by kernel_rfl, fun w _ => by go_simp⟩) hS.out ?_
                    refine wpAnyH_take (i := 5) (v := .bool st'.isNone) rfl (by kernel_rfl) (by kernel_rfl) (by kernel_rfl) (fun _ _ _ h => h) (Or.inl ⟨by kernel_rfl, fun w h => by go_simp⟩) hS.out ?_
                    refine wpAnyH_take (i := 6) (v := .bool st'.isSome) rfl (by kernel_rfl) (by kernel_rfl) (by kernel_rfl) (fun _ _ _ h => h) (Or.inl ⟨by kernel_rfl, fun w _ => by go_simp; try (cases st' <;> rfl)⟩) hS.out ?_
                    refine wpAnyH_ready (rs := [1]) (by kernel_rfl) (by simp) ?_
                    refine AllReadyH.cons rfl (fun K hK => ?_) AllReadyH.nil
                    go_simp
                    refine (ok_any w8 r st' hr8).mono ?_
                    rintro e w9 ⟨rfl, rfl⟩
                    go_simp
                    refine hK.out _ _ hS.out (fun _ => ?_)
                    clear hK K
                    refine wpAnyH_ready (rs := [7]) (by kernel_rfl) (by simp) ?_
                    refine AllReadyH.cons rfl (fun K hK => ?_) AllReadyH.nil
                    go_simp
                    refine hK.out _ _ hS.out (fun _ => ?_)
                    clear hK K
                    refine wpAnyH_ready (rs := [8]) (by kernel_rfl) (by simp) ?_
                    refine AllReadyH.cons rfl (fun K hK => ?_) AllReadyH.nil
                    go_simp
                    refine hK.out _ _ hS.out (fun _ => ?_)
                    clear hK K
                    refine wpAnyH_take (i := 9) (v := .pointer (some ⟨r, 0, none⟩)) rfl (by kernel_rfl) (by kernel_rfl) (by kernel_rfl) (fun _ _ _ h => h) (Or.inl ⟨by kernel_rfl, fun w _ => by go_simp⟩) hS.out ?_
                    refine wpAnyH_take (i := 11) (v := .pointer (some ⟨s, 0, none⟩)) rfl (by kernel_rfl) (by kernel_rfl) (by kernel_rfl) (fun _ _ _ h => h) (Or.inl ⟨by kernel_rfl, fun w _ => by go_simp⟩) hS.out ?_
                    refine wpAnyH_ready (rs := [10]) (by kernel_rfl) (by simp) ?_
                    refine AllReadyH.cons rfl (fun K hK => ?_) AllReadyH.nil
                    go_simp
                    refine (end_any w8 r st' hr8).mono ?_
                    rintro e w9 ⟨rfl, rfl⟩
                    go_simp
                    refine hK.out _ _ hS.out (fun _ => ?_)
                    clear hK K
                    refine wpAnyH_ready (rs := [12]) (by kernel_rfl) (by simp) ?_
                    refine AllReadyH.cons rfl (fun K hK => ?_) AllReadyH.nil
                    go_simp
                    refine (refend_any w8 wz.heap.size s st' hs8).mono ?_
                    rintro e w9 ⟨rfl, rfl⟩
                    go_simp
                    refine hK.out _ _ hS.out (fun _ => ?_)
                    clear hK K
                    refine wpAnyH_ready (rs := [13]) (by kernel_rfl) (by simp) ?_
                    refine AllReadyH.cons rfl (fun K hK => ?_) AllReadyH.nil
                    go_simp
                    refine hK.out _ _ hS.out (fun _ => ?_)
                    clear hK K
                    refine wpAnyH_ready (rs := [14]) (by kernel_rfl) (by simp) ?_
                    refine AllReadyH.cons rfl (fun K hK => ?_) AllReadyH.nil
                    go_simp
                    refine hK.out _ _ hS.out (fun _ => ?_)
                    clear hK K
                    refine wpAnyH_done (by kernel_rfl) ?_ _
                    go_wp2_with fail
                    go_roundw
                    case rel => exact ⟨i + 1, st', by omega, by go_num, hr8, hs8, HB8⟩
                    case measure => simp [intOf]; omega
                  · go_simp
                    refine (refbytes_in (W := wz) hs5 HB5 hsz).mono ?_
                    rintro e w6 ⟨A6, n6, c6, rfl, hown6, hs6, HB6, ho6⟩
                    have hS := Lib.hid ((H3.out.below (HBz.out.trans (HB6.mono HBz.out.size))).int_cell hi3 HM.out)
                    have hr6 : RdrAt w6 r (Pk.bytS st m) := by
                      obtain ⟨cs, hbk⟩ := hs5.blk
                      exact hr5.grown ho6 hbk (by decide) (Ne.symm hsr)
                    have R6 : RdT w6 5 A5 n5 (bv (Pk.bytV st m)) := by
                      obtain ⟨cs, hbk⟩ := hs5.blk
                      exact HR5.out.grown ho6 hbk (by decide)
                    have hcv5' := awake_str (c := c5) R6.rd
                    have hcv6 := awake_str (c := c6) (RdT.own hown6).rd
                    clear R6 hown6 ho6 hr5 hs5 HB5 hcv5
                    go_simp
                    refine hK.out _ _ hS.out (fun _ => ?_)
                    clear hK K
                    refine wpAnyH_ready (rs := [6, 13]) (by kernel_rfl) (by simp) ?_
                    refine AllReadyH.cons rfl (fun K hK => ?_) (AllReadyH.cons rfl (fun K hK => ?_) AllReadyH.nil)
                    · go_simp
                      refine hK.out _ _ hS.out (fun _ => ?_)
                      clear hK K
                      refine wpAnyH_ready (rs := [13]) (by kernel_rfl) (by simp) ?_
                      refine AllReadyH.cons rfl (fun K hK => ?_) AllReadyH.nil
                      go_simp
                      refine hK.out _ _ hS.out (fun _ => ?_)
                      clear hK K
                      refine wpAnyH_ready (rs := [14]) (by kernel_rfl) (by simp) ?_
                      refine AllReadyH.cons rfl (fun K hK => ?_) AllReadyH.nil
                      go_simp
                      refine hK.out _ _ hS.out (fun _ => ?_)
                      clear hK K
                      refine wpAnyH_done (by kernel_rfl) ?_ _
                      have hpair : Pair wz w6 r s (Pk.bytS st m) := ⟨hr6, hs6, HB6⟩
                      obtain ⟨st', hst'⟩ : ∃ st', st' = Pk.bytS st m := ⟨_, rfl⟩
                      rw [← hst'] at hpair
                      clear hst' hr6 hs6 HB6 hcv5' hcv6
                      go_upto_region 32 with fail
                      obtain ⟨hr6, hs6, HB6⟩ := hpair
                      have hS0 : w6.drew.cell? ⟨s, 1, none⟩ = some (.bool st'.isNone) := hs6.flag
                      refine wp_region_held_drew (S := fun w' => w'.cell? ⟨s, 1, none⟩ = some (.bool st'.isNone)) (by kernel_rfl) hS0 (fun _ => ?_)
                      have hr8 : RdrAt w6.drew r st' := hr6
                      have hs8 : RefAt w6.drew wz.heap.size s st' := hs6
                      have HB8 := HB6.drew
                      clear hr6 hs6 HB6
                      generalize w6.drew = w8 at hr8 hs8 HB8 hS0 ⊢
                      have hS := Lib.hid hS0
                      clear hS0
                      refine wpAnyH_take (i := 0) (v := .pointer (some ⟨r, 0, none⟩)) rfl (by kernel_rfl) (by kernel_rfl) (by kernel_rfl) (fun _ _ _ h => h) (Or.inl ⟨by kernel_rfl, fun w _ => by go_simp⟩) hS.out ?_
                      refine wpAnyH_take (i := 2) (v := .pointer (some ⟨s, 0, none⟩)) rfl (by kernel_rfl) (by kernel_rfl) (by kernel_rfl) (fun _ _ _ h => h) (Or.inl ⟨by kernel_rfl, fun w _ => by go_simp⟩) hS.out ?_
                      refine wpAnyH_take (i := 3) (v := .pointer (some ⟨s, 0, none⟩)) rfl (by kernel_rfl) (by kernel_rfl) (by kernel_rfl) (fun _ _ _ h => h) (Or.inl ⟨by kernel_rfl, fun w _ => by go_simp⟩) hS.out ?_
                      refine wpAnyH_take (i := 4) (v := .pointer (some ⟨s, 1, none⟩)) rfl (by kernel_rfl) (by kernel_rfl) (by kernel_rfl) (fun _ _ _ h => h) (Or.inl ⟨by kernel_rfl, fun w _ => by go_simp⟩) hS.out ?_
                      refine wpAnyH_take (i := 5) (v := .bool st'.isNone) rfl (by kernel_rfl) (by kernel_rfl) (by kernel_rfl) (fun _ _ _ h => h) (Or.inl ⟨by kernel_rfl, fun w h => by go_simp⟩) hS.out ?_
                      refine wpAnyH_take (i := 6) (v := .bool st'.isSome) rfl (by kernel_rfl) (by kernel_rfl) (by kernel_rfl) (fun _ _ _ h => h) (Or.inl ⟨by kernel_rfl, fun w _ => by go_simp; try (cases st' <;> rfl)⟩) hS.out ?_
                      refine wpAnyH_ready (rs := [1]) (by kernel_rfl) (by simp) ?_
                      refine AllReadyH.cons rfl (fun K hK => ?_) AllReadyH.nil
                      go_simp
                      refine (ok_any w8 r st' hr8).mono ?_
                      rintro e w9 ⟨rfl, rfl⟩
                      go_simp
                      refine hK.out _ _ hS.out (fun _ => ?_)
                      clear hK K
                      refine wpAnyH_ready (rs := [7]) (by kernel_rfl) (by simp) ?_
                      refine AllReadyH.cons rfl (fun K hK => ?_) AllReadyH.nil
                      go_simp
                      refine hK.out _ _ hS.out (fun _ => ?_)
                      clear hK K
                      refine wpAnyH_ready (rs := [8]) (by kernel_rfl) (by simp) ?_
                      refine AllReadyH.cons rfl (fun K hK => ?_) AllReadyH.nil
                      go_simp
                      refine hK.out _ _ hS.out (fun _ => ?_)
                      clear hK K
                      refine wpAnyH_take (i := 9) (v := .pointer (some ⟨r, 0, none⟩)) rfl (by kernel_rfl) (by kernel_rfl) (by kernel_rfl) (fun _ _ _ h => h) (Or.inl ⟨by kernel_rfl, fun w _ => by go_simp⟩) hS.out ?_
                      refine wpAnyH_take (i := 11) (v := .pointer (some ⟨s, 0, none⟩)) rfl (by kernel_rfl) (by kernel_rfl) (by kernel_rfl) (fun _ _ _ h => h) (Or.inl ⟨by kernel_rfl, fun w _ => by go_simp⟩) hS.out ?_
                      refine wpAnyH_ready (rs := [10]) (by kernel_rfl) (by simp) ?_
                      refine AllReadyH.cons rfl (fun K hK => ?_) AllReadyH.nil
                      go_simp
                      refine (end_any w8 r st' hr8).mono ?_
                      rintro e w9 ⟨rfl, rfl⟩
                      go_simp
                      refine hK.out _ _ hS.out (fun _ => ?_)
                      clear hK K
                      refine wpAnyH_ready (rs := [12]) (by kernel_rfl) (by simp) ?_
                      refine AllReadyH.cons rfl (fun K hK => ?_) AllReadyH.nil
                      go_simp
                      refine (refend_any w8 wz.heap.size s st' hs8).mono ?_
                      rintro e w9 ⟨rfl, rfl⟩
                      go_simp
                      refine hK.out _ _ hS.out (fun _ => ?_)
                      clear hK K
                      refine wpAnyH_ready (rs := [13]) (by kernel_rfl) (by simp) ?_
                      refine AllReadyH.cons rfl (fun K hK => ?_) AllReadyH.nil
                      go_simp
                      refine hK.out _ _ hS.out (fun _ => ?_)
                      clear hK K
                      refine wpAnyH_ready (rs := [14]) (by kernel_rfl) (by simp) ?_
                      refine AllReadyH.cons rfl (fun K hK => ?_) AllReadyH.nil
                      go_simp
                      refine hK.out _ _ hS.out (fun _ => ?_)
                      clear hK K
                      refine wpAnyH_done (by kernel_rfl) ?_ _
                      go_wp2_with fail
                      go_roundw
                      case rel => exact ⟨i + 1, st', by omega, by go_num, hr8, hs8, HB8⟩
                      case measure => simp [intOf]; omega
                    · go_simp
                      refine hK.out _ _ hS.out (fun _ => ?_)
                      clear hK K
                      refine wpAnyH_ready (rs := [6]) (by kernel_rfl) (by simp) ?_
                      refine AllReadyH.cons rfl (fun K hK => ?_) AllReadyH.nil
                      go_simp
                      refine hK.out _ _ hS.out (fun _ => ?_)
                      clear hK K
                      refine wpAnyH_ready (rs := [14]) (by kernel_rfl) (by simp) ?_
                      refine AllReadyH.cons rfl (fun K hK => ?_) AllReadyH.nil
                      go_simp
                      refine hK.out _ _ hS.out (fun _ => ?_)
                      clear hK K
                      refine wpAnyH_done (by kernel_rfl) ?_ _
                      have hpair : Pair wz w6 r s (Pk.bytS st m) := ⟨hr6, hs6, HB6⟩
                      obtain ⟨st', hst'⟩ : ∃ st', st' = Pk.bytS st m := ⟨_, rfl⟩
                      rw [← hst'] at hpair
                      clear hst' hr6 hs6 HB6 hcv5' hcv6
                      go_upto_region 32 with fail
                      obtain ⟨hr6, hs6, HB6⟩ := hpair
                      have hS0 : w6.drew.cell? ⟨s, 1, none⟩ = some (.bool st'.isNone) := hs6.flag
                      refine wp_region_held_drew (S := fun w' => w'.cell? ⟨s, 1, none⟩ = some (.bool st'.isNone)) (by kernel_rfl) hS0 (fun _ => ?_)
                      have hr8 : RdrAt w6.drew r st' := hr6
                      have hs8 : RefAt w6.drew wz.heap.size s st' := hs6
                      have HB8 := HB6.drew
                      clear hr6 hs6 HB6
                      generalize w6.drew = w8 at hr8 hs8 HB8 hS0 ⊢
                      have hS := Lib.hid hS0
                      clear hS0
                      refine wpAnyH_take (i := 0) (v := .pointer (some ⟨r, 0, none⟩)) rfl (by kernel_rfl) (by kernel_rfl) (by kernel_rfl) (fun _ _ _ h => h) (Or.inl ⟨by kernel_rfl, fun w _ => by go_simp⟩) hS.out ?_
                      refine wpAnyH_take (i := 2) (v := .pointer (some ⟨s, 0, none⟩)) rfl (by kernel_rfl) (by kernel_rfl) (by kernel_rfl) (fun _ _ _ h => h) (Or.inl ⟨by kernel_rfl, fun w _ => by go_simp⟩) hS.out ?_
                      refine wpAnyH_take (i := 3) (v := .pointer (some ⟨s, 0, none⟩)) rfl (by kernel_rfl) (by kernel_rfl) (by kernel_rfl) (fun _ _ _ h => h) (Or.inl ⟨by kernel_rfl, fun w _ => by go_simp⟩) hS.out ?_
                      refine wpAnyH_take (i := 4) (v := .pointer (some ⟨s, 1, none⟩)) rfl (by kernel_rfl) (by kernel_rfl) (by kernel_rfl) (fun _ _ _ h => h) (Or.inl ⟨by kernel_rfl, fun w _ => by go_simp⟩) hS.out ?_
                      refine wpAnyH_take (i := 5) (v := .bool st'.isNone) rfl (by kernel_rfl) (by kernel_rfl) (by kernel_rfl) (fun _ _ _ h => h) (Or.inl ⟨by kernel_rfl, fun w h => by go_simp⟩) hS.out ?_
                      refine wpAnyH_take (i := 6) (v := .bool st'.isSome) rfl (by kernel_rfl) (by kernel_rfl) (by kernel_rfl) (fun _ _ _ h => h) (Or.inl ⟨by kernel_rfl, fun w _ => by go_simp; try (cases st' <;> rfl)⟩) hS.out ?_
                      refine wpAnyH_ready (rs := [1]) (by kernel_rfl) (by simp) ?_
                      refine AllReadyH.cons rfl (fun K hK => ?_) AllReadyH.nil
                      go_simp
                      refine (ok_any w8 r st' hr8).mono ?_
                      rintro e w9 ⟨rfl, rfl⟩
                      go_simp
                      refine hK.out _ _ hS.out (fun _ => ?_)
                      clear hK K
                      refine wpAnyH_ready (rs := [7]) (by kernel_rfl) (by simp) ?_
                      refine AllReadyH.cons rfl (fun K hK => ?_) AllReadyH.nil
                      go_simp
                      refine hK.out _ _ hS.out (fun _ => ?_)
                      clear hK K
                      refine wpAnyH_ready (rs := [8]) (by kernel_rfl) (by simp) ?_
                      refine AllReadyH.cons rfl (fun K hK => ?_) AllReadyH.nil
                      go_simp
                      refine hK.out _ _ hS.out (fun _ => ?_)
                      clear hK K
                      refine wpAnyH_take (i := 9) (v := .pointer (some ⟨r, 0, none⟩)) rfl (by kernel_rfl) (by kernel_rfl) (by kernel_rfl) (fun _ _ _ h => h) (Or.inl ⟨by kernel_rfl, fun w _ => by go_simp⟩) hS.out ?_
                      refine wpAnyH_take (i := 11) (v := .pointer (some ⟨s, 0, none⟩)) rfl (by kernel_rfl) (by kernel_rfl) (by kernel_rfl) (fun _ _ _ h => h) (Or.inl ⟨by kernel_rfl, fun w _ => by go_simp⟩) hS.out ?_
                      refine wpAnyH_ready (rs := [10]) (by kernel_rfl) (by simp) ?_
                      refine AllReadyH.cons rfl (fun K hK => ?_) AllReadyH.nil
                      go_simp
                      refine (end_any w8 r st' hr8).mono ?_
                      rintro e w9 ⟨rfl, rfl⟩
                      go_simp
                      refine hK.out _ _ hS.out (fun _ => ?_)
                      clear hK K
                      refine wpAnyH_ready (rs := [12]) (by kernel_rfl) (by simp) ?_
                      refine AllReadyH.cons rfl (fun K hK => ?_) AllReadyH.nil
                      go_simp
                      refine (refend_any w8 wz.heap.size s st' hs8).mono ?_
                      rintro e w9 ⟨rfl, rfl⟩
                      go_simp
                      refine hK.out _ _ hS.out (fun _ => ?_)
                      clear hK K
                      refine wpAnyH_ready (rs := [13]) (by kernel_rfl) (by simp) ?_
                      refine AllReadyH.cons rfl (fun K hK => ?_) AllReadyH.nil
                      go_simp
                      refine hK.out _ _ hS.out (fun _ => ?_)
                      clear hK K
                      refine wpAnyH_ready (rs := [14]) (by kernel_rfl) (by simp) ?_
                      refine AllReadyH.cons rfl (fun K hK => ?_) AllReadyH.nil
                      go_simp
                      refine hK.out _ _ hS.out (fun _ => ?_)
                      clear hK K
                      refine wpAnyH_done (by kernel_rfl) ?_ _
                      go_wp2_with fail
                      go_roundw
                      case rel => exact ⟨i + 1, st', by omega, by go_num, hr8, hs8, HB8⟩
                      case measure => simp [intOf]; omega
              · have hp' := hp.2.2
                by_cases hi2 : i < len2
                · by_cases hi3 : i < len3
                  · have hi6 : ¬ (i : Int) < 20 := by omega
                    go_wp2_with fail
                    go_roundw
                    case rel => exact ⟨j + 1, by omega, by go_num, hp'⟩
                    case measure => simp [intOf]; omega
                  · go_wp2_with fail
                    go_roundw
                    case rel => exact ⟨j + 1, by omega, by go_num, hp'⟩
                    case measure => simp [intOf]; omega
                · go_wp2_with fail
                  go_roundw
                  case rel => exact ⟨j + 1, by omega, by go_num, hp'⟩
                  case measure => simp [intOf]; omega
          · have hj6 : ¬ (j : Int) < 5 := by omega
            go_wp2_with fail
            refine (awake_any _).mono ?_
            rintro e w10 ⟨rfl, HBA⟩
            go_wp2
            go_ret
            have HBq := HBj.trans (HBA.mono HBj.size)
            exact ⟨rfl, HBz.out.trans (HBq.mono HBz.out.size)⟩
end Go.Proofs.Ytojfhgicfkpidaa
