/- PackWalks -/
import Derived.Test.YtmekamgohonffaaBF01
import Derived.Test.YtmekamgohonffaaBF10
import Derived.Below
import Derived.Deep.RegionWith
import Derived.IntWalk
import Derived.Laws.BitsAllLaws
import Derived.Outline
import Derived.OwnWalk
import Derived.ProofKit
import Derived.WalkKit
import Derived.WalkLawsBesides
import Derived.WalkSpells
namespace Go.Proofs.Ytmekamgohonffaa
open Go.RowKit
set_option linter.unusedVariables false

theorem run_max0 {P : Program} (w : World) (ts : Array TypeId) (t : TypeId) (n : Int) :
    (Builtin.max_ ts t #[.int .i64 n, .int .i64 0]).run P w = .ok (.int .i64 (max n 0)) w := by
  have e : max n 0 = if (n : Int) < 0 then 0 else n := by omega
  rw [e]
  simp [Builtin.max_, Builtin.max2]
theorem run_min_top {P : Program} (w : World) (ts : Array TypeId) (t : TypeId) (n : Int) :
    (Builtin.min_ ts t #[.int .i64 (max n 0), .int .i64 4611686018427387904]).run P w = .ok (.int .i64 (Pk.held n : Nat)) w := by
  have e : ((Pk.held n : Nat) : Int) = if (4611686018427387904 : Int) < max n 0 then 4611686018427387904 else max n 0 := by unfold Pk.held Pk.top; omega
  rw [e]
  simp [Builtin.min_, Builtin.min2]
theorem held_any (n : Int) (w : World) :
    Calls Try.prog 37 #[.int .i64 n] w fun e w' => e = .returned (.int .i64 (Pk.held n : Nat)) ∧ w = w' := by
  have h1 := fun (w : World) ts t => run_max0 (P := Try.prog) w ts t n
  have h2 := fun (w : World) ts t => run_min_top (P := Try.prog) w ts t n
  go_enter Try.func37, Try.ntmps37
  go_wp2
  go_ret
  exact ⟨rfl, rfl⟩
theorem wpList_make_room {P : Program} {t e : TypeId} {W w : World} (hT : ByteT P t e) {ops : Array Oper} {rest : List Oper} {o : Oper} {a : Act} {Q : Exit → Act → World → Prop} (hg : o.guard = none) (l c : Operand)
    (hop : o.op = Op.makeSlice t l c) {C : Int} (hl : a.eval l = .int .i64 0) (hc : a.eval c = .int .i64 C) (n : Nat) (hC : C = (n : Int)) (hn : n ≤ 2199023255552) (hB : Below W.heap.size W w)
    (h : ∀ w2, w2.ownsRow W.heap.size e 1 (.slice (some ⟨w.heap.size, 0, none⟩) 0 n) 0 (bv []) → Below W.heap.size W w2 → wpList P ops Q rest (a.put o.dst (.slice (some ⟨w.heap.size, 0, none⟩) 0 n)) w2) :
    wpList P ops Q (o :: rest) a w := by
  obtain ⟨i, hi, hz, hsz, hby⟩ := info_parts hT.info
  refine wpList_make_own w hg l c t hop W.heap.size e i (.int .u8 0) 1 hT.under hi hz hsz .i64 .i64 C n hl hc hC (by rw [hby]; omega) (by unfold maxLen; omega) hB.size ?_
  intro w2 h2 h3
  exact h w2 h2 (hB.grown h3 hB.size (fun k hk => by cases hk))
theorem withRoom_any (l : List Nat) (A : Option Addr) (n c B : Nat) (room : Int) (hn : Lim 0 n) (h0 : 0 ≤ room) (hm : room ≤ 1099511627776) (w : World) (hr : Rd w B A n (bv l)) :
    Calls Try.prog 24 #[.slice A n c, .int .i64 room] w (GotB w l) := by
  obtain ⟨room, rfl⟩ := Int.eq_ofNat_of_zero_le h0
  clear h0
  have hn := hn.out
  have H := Lib.hid hr.fit
  clear hr
  have hB0 : Below w.heap.size w w := Below.refl _ _
  go_enter Try.func24, Try.ntmps24
  go_wp2_with (first
    | (at_make
       refine wpList_make_room (W := w) byteT rfl _ _ rfl rfl rfl (n + room) (by omega) (by omega) hB0 ?_
       intro w1 hown1 hB1)
    | (at_builtin
       refine wpList_append_bytes (W := w) byteT (.tmp 9) (.tmp 10) rfl (by rfl) rfl hown1 rfl (H.out.below hB1) (by omega) hB1 ?_
       intro A2 c2 w2 hown2 hr2 hB2
       simp only [Nat.zero_add, List.nil_append] at hown2 hr2)
    | fail)
  go_ret
  exact ⟨_, _, _, rfl, hown2, hB2⟩
def PutT (n : Nat) : Prop := n ≤ Pk.top
set_option maxRecDepth 100000 in
theorem put_any (l : List Nat) (A : Option Addr) (n c : Nat) (N : Int) (hn : Lim 20 n) (W w : World) (hown : OwnB W w A n c l) (hB : Below W.heap.size W w) :
    Calls Try.prog 23 #[.slice A n c, .int .i64 N] w (GotB W (l ++ Pk.enc (Pk.held N))) := by
  have hT : PutT (Pk.held N) := Pk.held_le N
  have HL := Lib.hid (Pk.enc_length (Pk.held N))
  have HO := Lib.hid hown
  clear hown
  go_enter Try.func23, Try.ntmps23
  go_wp2_with (go_at_call 37; refine (held_any _ _).mono ?_; rintro e w' ⟨rfl, rfl⟩)
  go_loopw [0, 1] (fun s0 s1 wr => ∃ (m : Nat) (A' : Option Addr) (n' c' : Nat) (l' : List Nat), PutT m ∧ s1 = .int .i64 m ∧ s0 = .slice A' n' c' ∧ OwnB W wr A' n' c' l' ∧ Below W.heap.size W wr ∧ Hid (l' ++ Pk.enc m = l ++ Pk.enc (Pk.held N)) ∧ n' ≤ n + 9)
    (fun _ s1 _ => (intOf s1).toNat)
  case atStart => exact ⟨_, _, _, _, l, hT, rfl, rfl, HO.out, hB, Lib.hid rfl, by omega⟩
  case round =>
    obtain ⟨m, A', n', c', l', hm, rfl, rfl, hown, hB', hl, hn'⟩ := hrel
    by_cases hlt : 128 ≤ m
    · have hm2 : (m : Int) ≤ 4611686018427387904 := by have : m ≤ Pk.top := hm; unfold Pk.top at this; omega
      have HE := Lib.hid (Pk.enc_big hlt hm)
      have hq : PutT (m / 128) := by have : m ≤ Pk.top := hm; exact Nat.le_trans (Nat.div_le_self _ _) this
      have HB := Lib.hid (Pk.enc_length (m / 128))
      go_wp2_with (first
        | (at_builtin
           refine wpList_append_bytes (W := W) byteT (.tmp 9) (.tmp 14) rfl (by rfl) rfl (hown.alloc _) rfl (Rd.oneI wr (x := m % 128 + 128) (by omega) 5) (by have := hn.out; omega) (hB'.alloc hB'.size _) ?_
           intro A1 c1 w1 hown1 hr1 hB1)
        | fail)
      go_roundw
      case rel =>
        have HL' := Lib.hid (congrArg List.length hl.out)
        refine ⟨m / 128, A1, n' + 1, c1, l' ++ [m % 128 + 128], hq, by go_num, rfl, hown1, hB1, Lib.hid ?_, ?_⟩
        · have := hl.out
          rw [HE.out] at this
          rw [← this, List.append_assoc]; rfl
        · have h1 := HL'.out
          have h2 := HL.out
          have h3 := own_len hown
          have h4 := own_len HO.out
          have h5 := HB.out
          rw [HE.out] at h1
          simp only [List.length_append, List.length_cons] at h1
          omega
      case measure => simp [intOf]; omega
    · have HE := Lib.hid (Pk.enc_small (n := m) (by omega))
      have hi : (m : Int) < 128 := by omega
      go_wp2_with (first
        | (at_builtin
           refine wpList_append_bytes (W := W) byteT (.tmp 18) (.tmp 21) rfl (by rfl) rfl (hown.alloc _) rfl (Rd.oneI wr (x := m) (by omega) 5) (by have := hn.out; omega) (hB'.alloc hB'.size _) ?_
           intro A1 c1 w1 hown1 hr1 hB1)
        | fail)
      go_ret
      have h1 := hl.out
      rw [HE.out] at h1
      rw [h1] at hown1
      exact ⟨_, _, _, rfl, hown1, hB1⟩
theorem num_any (l : List Nat) (A : Option Addr) (n c B : Nat) (N : Int) (hn : Lim 20 n) (w : World) (hr : Rd w B A n (bv l)) :
    Calls Try.prog 8 #[.slice A n c, .int .i64 N] w (GotB w (l ++ Pk.enc (Pk.held N))) := by
  have hl := hr.length
  have H := Lib.hid hr
  have HL := Lib.hid hl
  clear hr hl
  go_enter Try.func8, Try.ntmps8
  go_wp2_with fail
  refine (withRoom_any l A n c B 9 (by have := hn.out; unfold Lim; omega) (by omega) (by omega) _ H.out).mono ?_
  rintro e w1 ⟨A1, n1, c1, rfl, hown1, hB1⟩
  have hn1 : Lim 20 n1 := by have := own_len hown1; have := HL.out; have := hn.out; unfold Lim; omega
  go_wp2_with fail
  refine (put_any l A1 n1 c1 N hn1 w w1 hown1 hB1).mono ?_
  rintro e w2 ⟨A2, n2, c2, rfl, hown2, hB2⟩
  go_wp2
  go_ret
  exact ⟨_, _, _, rfl, hown2, hB2⟩
theorem held_len {n : Nat} (h : Lim 20 n) : Pk.held (n : Int) = n := Pk.held_of (by have := h.out; unfold Pk.top; omega)
theorem bytes_any (l x : List Nat) (A : Option Addr) (n c B : Nat) (A' : Option Addr) (n' c' B' : Nat) (hn : Lim 20 n) (hn' : Lim 20 n') (hs : Lim 20 (n + n')) (w : World) (hr : Rd w B A n (bv l)) (hr' : Rd w B' A' n' (bv x)) :
    Calls Try.prog 9 #[.slice A n c, .slice A' n' c'] w (GotB w (l ++ Pk.encB x)) := by
  have HL := Lib.hid hr.length
  have HX := Lib.hid hr'.length
  have H := Lib.hid hr
  have H' := Lib.hid hr'.fit
  have HE := Lib.hid (Pk.enc_length n')
  have HD := Lib.hid (held_len hn')
  have hb : (n' : Int) ≤ 1099511627756 := by have := hn'.out; omega
  clear hr hr'
  go_enter Try.func9, Try.ntmps9
  go_wp2_with fail
  refine (withRoom_any l A n c B (9 + n') (by have := hn.out; unfold Lim; omega) (by omega) (by omega) _ H.out).mono ?_
  rintro e w1 ⟨A1, n1, c1, rfl, hown1, hB1⟩
  have hn1 : Lim 20 n1 := by have := own_len hown1; have := HL.out; have := hn.out; unfold Lim; omega
  have HN1 := Lib.hid (show n1 = n by have := own_len hown1; have := HL.out; omega)
  go_wp2_with fail
  refine (put_any l A1 n1 c1 n' hn1 w w1 hown1 hB1).mono ?_
  rintro e w2 ⟨A2, n2, c2, rfl, hown2, hB2⟩
  have HN2 := Lib.hid (own_len hown2)
  go_wp2_with (first
    | (at_builtin
       refine wpList_append_bytes (W := w) byteT (.tmp 12) (.tmp 13) rfl (by rfl) rfl hown2 rfl (H'.out.below hB2) (by
         have h1 := HN2.out; have h2 := HN1.out; have h3 := HL.out; have h4 := HE.out; have h5 := hs.out
         rw [HD.out, List.length_append] at h1; omega) hB2 ?_
       intro A3 c3 w3 hown3 hr3 hB3)
    | fail)
  go_ret
  refine ⟨_, _, _, rfl, ?_, hB3⟩
  have h6 := hown3
  rw [HD.out] at h6
  unfold Pk.encB
  rw [HX.out, ← List.append_assoc]
  exact h6
/-- a reader at block b: what is left to read, or none -/
def RdrAt (w : World) (b : Nat) (s : Pk.St) : Prop := ∃ A n c, Blk w b 79 #[.slice A n c, .bool s.isNone] ∧ n ≤ c ∧ c ≤ maxLen ∧ Lim 40 n ∧ RdT w 5 A n (bv (s.getD [])) ∧ ∀ x ∈ s.getD [], x < 256
theorem RdrAt.below {w w' : World} {b : Nat} {s : Pk.St} (h : RdrAt w b s) (hb : Below w.heap.size w w') : RdrAt w' b s := by
  obtain ⟨A, n, c, h1, h2, h3, h4, h5, h6⟩ := h
  exact ⟨A, n, c, h1.below hb, h2, h3, h4, h5.below hb, h6⟩
theorem RdrAt.lt {w : World} {b : Nat} {s : Pk.St} (h : RdrAt w b s) : b < w.heap.size := by
  obtain ⟨A, n, c, h1, _⟩ := h
  exact h1.lt
/-- a call that began in W answered a new reader of l -/
def GotRd (W : World) (l : List Nat) (e : Ending) (w' : World) : Prop := ∃ b, e = .returned (.pointer (some ⟨b, 0, none⟩)) ∧ RdrAt w' b (some l) ∧ W.heap.size ≤ b ∧ Below W.heap.size W w'
theorem readP_any (l : List Nat) (A : Option Addr) (n c B : Nat) (hn : Lim 40 n) (hl : ∀ x ∈ l, x < 256) (w : World) (hr : Rd w B A n (bv l)) :
    Calls Try.prog 14 #[.slice A n c] w (GotRd w l) := by
  have HL := Lib.hid hr.length
  have H := Lib.hid hr
  have HX := Lib.hid hl
  clear hr hl
  go_enter Try.func14, Try.ntmps14
  go_wp2_with fail
  refine (withRoom_any l A n c B 0 (by have := hn.out; unfold Lim; omega) (by omega) (by omega) _ H.out).mono ?_
  rintro e w1 ⟨A1, n1, c1, rfl, hown1, hB1⟩
  have hn1 : Lim 40 n1 := by have := own_len hown1; have := HL.out; have := hn.out; unfold Lim; omega
  go_wp2
  go_ret
  exact ⟨w1.heap.size, rfl, ⟨A1, n1, c1, Blk.new _ _ _, (own_cap hown1).1, (own_cap hown1).2, hn1, (RdT.own hown1).alloc _, HX.out⟩, hB1.size, hB1.alloc hB1.size _⟩
theorem run_min9 {P : Program} (w : World) (ts : Array TypeId) (t : TypeId) (n : Nat) :
    (Builtin.min_ ts t #[.int .i64 (n : Int), .int .i64 9]).run P w = .ok (.int .i64 ((min n 9 : Nat) : Int)) w := by
  have e : ((min n 9 : Nat) : Int) = if (9 : Int) < (n : Int) then 9 else (n : Int) := by omega
  rw [e]
  simp [Builtin.min_, Builtin.min2]
theorem i64_or_nat (a b : Nat) (ha : a < 9223372036854775808) (hb : b < 9223372036854775808) : bits .or .i64 (a : Int) (b : Int) = ((a ||| b : Nat) : Int) := by
  show IntKind.i64.wrap ((BitVec.ofInt 64 a ||| BitVec.ofInt 64 b).toNat : Int) = _
  have hlt : a ||| b < 2 ^ 63 := Nat.or_lt_two_pow (by omega) (by omega)
  have e : (BitVec.ofInt 64 a ||| BitVec.ofInt 64 b).toNat = a ||| b := by
    rw [BitVec.toNat_or, BitVec.toNat_ofInt, BitVec.toNat_ofInt]
    have h1 : ((a : Int) % ((2 ^ 64 : Nat) : Int)).toNat = a := by omega
    have h2 : ((b : Int) % ((2 ^ 64 : Nat) : Int)).toNat = b := by omega
    rw [h1, h2]
  rw [e, IntKind.wrap_i64]
  omega
theorem or_group {k acc x : Nat} (hk : k < 9) (ha : acc < 128 ^ k) (hx : x < 256) :
    bits .or .i64 (acc : Int) (wrap64 ((x : Int) % 128 * 2 ^ (7 * k))) = ((acc + x % 128 * 128 ^ k : Nat) : Int) := by
  have e128 : (128 : Nat) ^ k = 2 ^ (7 * k) := by rw [Nat.pow_mul]
  have hp : (128 : Nat) ^ k ≤ 128 ^ 8 := Nat.pow_le_pow_right (by omega) (by omega)
  have hm : x % 128 * 128 ^ k ≤ 127 * 128 ^ k := Nat.mul_le_mul_right _ (by omega)
  have e1 : ((x : Int) % 128 * 2 ^ (7 * k)) = ((x % 128 * 128 ^ k : Nat) : Int) := by rw [e128]; simp
  have e2 : wrap64 ((x : Int) % 128 * 2 ^ (7 * k)) = ((x % 128 * 128 ^ k : Nat) : Int) := by
    rw [e1]
    unfold wrap64
    generalize x % 128 * 128 ^ k = q at hm
    omega
  rw [e2, i64_or_nat _ _ (by omega) (by omega), Nat.or_comm, nat_join (7 * k) _ _ (by rw [e128]; exact Nat.mul_mod_left _ _) (by rw [← e128]; exact ha), Nat.add_comm]
set_option maxRecDepth 100000 in
theorem first_any (l : List Nat) (A : Option Addr) (n c B : Nat) (hl : ∀ x ∈ l, x < 256) (hc : n ≤ c) (hn : Lim 0 n) (w : World) (hr : Rd w B A n (bv l)) :
    Calls Try.prog 36 #[.slice A n c] w fun e w' => e = .returned (.tuple #[.int .i64 ((Pk.first l).1 : Nat), .int .i64 ((Pk.first l).2 : Nat)]) ∧ w = w' := by
  have HL := Lib.hid hr.length
  have HX := Lib.hid hl
  obtain ⟨i, hi1, hi2, hi3, hi4⟩ := info_parts byteT.info
  have H9 := Lib.hid (run_slice_to (P := Try.prog) (t := 22) byteT.under hi1 A n c (min n 9) (by omega))
  obtain ⟨m, hm1, hm2, hm3, hmin, hsl⟩ : ∃ m : Nat, m ≤ n ∧ m ≤ 9 ∧ (m = n ∨ m = 9) ∧ (∀ (w : World) ts t, (Builtin.min_ ts t #[.int .i64 (n : Int), .int .i64 9]).run Try.prog w = .ok (.int .i64 (m : Int)) w) ∧
      ∀ w : World, (Instr.slice 22 (.slice A n c) none (some (.int .i64 (m : Int))) none).run Try.prog w = .ok (.slice A m c) w :=
    ⟨min n 9, by omega, by omega, by omega, fun w ts t => run_min9 w ts t n, H9.out⟩
  have H := Lib.hid (hr.take hm1)
  have HM := Lib.hid hm3
  clear hr hl hi1 hi2 hi3 hi4 H9 hm3
  go_enter Try.func36, Try.ntmps36
  go_wp2_with fail
  go_loop [2, 12] (fun s2 s12 => ∃ (k acc : Nat), k ≤ m ∧ s12 = .int .i64 k ∧ s2 = .int .i64 acc ∧ Hid (Pk.dec k acc (l.drop k) = Pk.first l ∧ acc < 128 ^ k)) (fun _ i => m - (intOf i).toNat)
  case atStart => exact ⟨0, 0, by omega, rfl, rfl, Lib.hid ⟨rfl, by simp⟩⟩
  case round =>
    obtain ⟨k, acc, hk, rfl, rfl, hd⟩ := hrel
    by_cases hlt : k < m
    · have hkl : k < l.length := by have := HL.out; omega
      obtain ⟨b, o, rfl, hk', hcell⟩ := (show Rd w B A m (bv (l.take m)) by rw [bv_take]; exact H.out).bytes_at hlt
      have HT := Lib.hid (show (l.take m)[k] = l[k] by simp)
      rw [HT.out] at hcell
      have hx : l[k] < 256 := HX.out _ (List.getElem_mem hkl)
      obtain ⟨x, hxe⟩ : ∃ x, x = l[k] := ⟨_, rfl⟩
      rw [← hxe] at hcell hx
      have HE := Lib.hid hxe
      clear hxe
      by_cases hbig : 128 ≤ x
      · have HD := Lib.hid (show Pk.dec k acc (l.drop k) = Pk.dec (k + 1) (acc + x % 128 * 128 ^ k) (l.drop (k + 1)) by
          rw [List.drop_eq_getElem_cons hkl, ← HE.out]
          simp only [Pk.dec]
          rw [if_neg (by omega), if_pos hbig])
        go_wp2
        go_round
        case rel =>
          refine ⟨k + 1, acc + x % 128 * 128 ^ k, by omega, by go_num, by rw [or_group (by omega) hd.out.2 hx], Lib.hid ⟨?_, ?_⟩⟩
          · rw [← HD.out]; exact hd.out.1
          · have h1 := hd.out.2
            have h2 : 128 ^ (k + 1) = 128 * 128 ^ k := by rw [Nat.pow_succ, Nat.mul_comm]
            have h3 : x % 128 * 128 ^ k ≤ 127 * 128 ^ k := Nat.mul_le_mul_right _ (by omega)
            omega
        case measure => simp [intOf]; omega
      · by_cases hz : x = 0 ∧ 0 < k
        · have HD := Lib.hid (show Pk.dec k acc (l.drop k) = (0, 0) by
            rw [List.drop_eq_getElem_cons hkl, ← HE.out]
            simp only [Pk.dec]
            rw [if_neg (by omega), if_neg hbig, if_pos hz])
          obtain ⟨rfl, hk0⟩ := hz
          have hk1 : ((k : Int) == 0) = false := by simp; omega
          go_wp2
          go_ret2
          have h1 : Pk.first l = (0, 0) := by rw [← hd.out.1]; exact HD.out
          exact ⟨by rw [h1]; rfl, rfl⟩
        · have HD := Lib.hid (show Pk.dec k acc (l.drop k) = (acc + x * 128 ^ k, k + 1) by
            rw [List.drop_eq_getElem_cons hkl, ← HE.out]
            simp only [Pk.dec]
            rw [if_neg (by omega), if_neg hbig, if_neg hz])
          have HO := Lib.hid (or_group (k := k) (by omega) hd.out.2 hx)
          have hx8 : (x : Int) < 128 := by omega
          have HF := Lib.hid (show (Ending.returned (.tuple #[.int .i64 (bits .or .i64 (acc : Int) (wrap64 ((x : Int) % 128 * 2 ^ (7 * k)))), .int .i64 ((k : Int) + 1)])) = .returned (.tuple #[.int .i64 ((Pk.first l).1 : Nat), .int .i64 ((Pk.first l).2 : Nat)]) by
            have h1 : Pk.first l = (acc + x * 128 ^ k, k + 1) := by rw [← hd.out.1]; exact HD.out
            have h2 : x % 128 = x := by omega
            rw [HO.out, h1, h2]; rfl)
          by_cases hx0 : x = 0
          · have hk0 : ¬ (0 < (k : Int)) := by omega
            have hz0 : ((x : Int) == 0) = true := by simp; omega
            clear hx0 hz hd HD HO
            go_wp2
            go_ret2
            exact ⟨HF.out, rfl⟩
          · have hz0 : ((x : Int) == 0) = false := by simp; omega
            clear hx0 hz hd HD HO
            go_wp2
            go_ret2
            exact ⟨HF.out, rfl⟩
    · have HD := Lib.hid (show Pk.dec k acc (l.drop k) = (0, 0) by
        rcases HM.out with h | h
        · rw [List.drop_of_length_le (by have := HL.out; omega)]; rfl
        · rcases Nat.lt_or_ge k l.length with h2 | h2
          · rw [List.drop_eq_getElem_cons h2]
            simp only [Pk.dec]
            rw [if_pos (by omega)]
          · rw [List.drop_of_length_le h2]; rfl)
      go_wp2
      go_ret2
      have h1 : Pk.first l = (0, 0) := by rw [← hd.out.1]; exact HD.out
      exact ⟨by rw [h1]; rfl, rfl⟩
end Go.Proofs.Ytmekamgohonffaa

