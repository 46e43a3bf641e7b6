/- PackWalks PackRdr PackIn MachPut MachPut2 MachEncode AppKit MachRefG MachGet -/
import Derived.Test.YthfnnieklkaefaaGreatQ01
import Derived.Test.YthfnnieklkaefaaGreatQ03
import Derived.Test.YthfnnieklkaefaaGreatQ07
import Derived.Below
import Derived.Deep.RegionWith
import Derived.IntWalk
import Derived.Laws.BitsAllLaws
import Derived.Outline
import Derived.OwnWalk
import Derived.ProofKit
import Derived.WalkKit
import Derived.WalkLawsBesides
import Derived.WalkSpells
import Derived.RegionTactic
import Derived.Deep.RegionHeld3
import Derived.Deep.RegionLaw
namespace Go.Proofs.YthfnnieklkaefaaGreat
open Go.RowKit
set_option linter.unusedVariables false

theorem run_max0 {P : Program} (w : World) (ts : Array TypeId) (t : TypeId) (n : Int) :
    (Builtin.max_ ts t #[.int .i64 n, .int .i64 0]).run P w = .ok (.int .i64 (max n 0)) w := by
  have e : max n 0 = if (n : Int) < 0 then 0 else n := by omega
  rw [e]
  simp [Builtin.max_, Builtin.max2]
theorem run_min_top {P : Program} (w : World) (ts : Array TypeId) (t : TypeId) (n : Int) :
    (Builtin.min_ ts t #[.int .i64 (max n 0), .int .i64 4611686018427387904]).run P w = .ok (.int .i64 (Pk.held n : Nat)) w := by
  have e : ((Pk.held n : Nat) : Int) = if (4611686018427387904 : Int) < max n 0 then 4611686018427387904 else max n 0 := by unfold Pk.held Pk.top; omega
  rw [e]
  simp [Builtin.min_, Builtin.min2]
theorem held_any (n : Int) (w : World) :
    Calls Tryz.prog 135 #[.int .i64 n] w fun e w' => e = .returned (.int .i64 (Pk.held n : Nat)) ∧ w = w' := by
  have h1 := fun (w : World) ts t => run_max0 (P := Tryz.prog) w ts t n
  have h2 := fun (w : World) ts t => run_min_top (P := Tryz.prog) w ts t n
  go_enter Tryz.func135, Tryz.ntmps135
  go_wp2
  go_ret
  exact ⟨rfl, rfl⟩
theorem wpList_make_room {P : Program} {t e : TypeId} {W w : World} (hT : ByteT P t e) {ops : Array Oper} {rest : List Oper} {o : Oper} {a : Act} {Q : Exit → Act → World → Prop} (hg : o.guard = none) (l c : Operand)
    (hop : o.op = Op.makeSlice t l c) {C : Int} (hl : a.eval l = .int .i64 0) (hc : a.eval c = .int .i64 C) (n : Nat) (hC : C = (n : Int)) (hn : n ≤ 2199023255552) (hB : Below W.heap.size W w)
    (h : ∀ w2, w2.ownsRow W.heap.size e 1 (.slice (some ⟨w.heap.size, 0, none⟩) 0 n) 0 (bv []) → Below W.heap.size W w2 → wpList P ops Q rest (a.put o.dst (.slice (some ⟨w.heap.size, 0, none⟩) 0 n)) w2) :
    wpList P ops Q (o :: rest) a w := by
  obtain ⟨i, hi, hz, hsz, hby⟩ := info_parts hT.info
  refine wpList_make_own w hg l c t hop W.heap.size e i (.int .u8 0) 1 hT.under hi hz hsz .i64 .i64 C n hl hc hC (by rw [hby]; omega) (by unfold maxLen; omega) hB.size ?_
  intro w2 h2 h3
  exact h w2 h2 (hB.grown h3 hB.size (fun k hk => by cases hk))
theorem withRoom_any (l : List Nat) (A : Option Addr) (n c B : Nat) (room : Int) (hn : Lim 0 n) (h0 : 0 ≤ room) (hm : room ≤ 1099511627776) (w : World) (hr : Rd w B A n (bv l)) :
    Calls Tryz.prog 68 #[.slice A n c, .int .i64 room] w (GotB w l) := by
  obtain ⟨room, rfl⟩ := Int.eq_ofNat_of_zero_le h0
  clear h0
  have hn := hn.out
  have H := Lib.hid hr.fit
  clear hr
  have hB0 : Below w.heap.size w w := Below.refl _ _
  go_enter Tryz.func68, Tryz.ntmps68
  go_wp2_with (first
    | (at_make
       refine wpList_make_room (W := w) byteT rfl _ _ rfl rfl rfl (n + room) (by omega) (by omega) hB0 ?_
       intro w1 hown1 hB1)
    | (at_builtin
       refine wpList_append_bytes (W := w) byteT (.tmp 9) (.tmp 10) rfl (by rfl) rfl hown1 rfl (H.out.below hB1) (by omega) hB1 ?_
       intro A2 c2 w2 hown2 hr2 hB2
       simp only [Nat.zero_add, List.nil_append] at hown2 hr2)
    | fail)
  go_ret
  exact ⟨_, _, _, rfl, hown2, hB2⟩
def PutT (n : Nat) : Prop := n ≤ Pk.top
set_option maxRecDepth 100000 in
theorem put_any (l : List Nat) (A : Option Addr) (n c : Nat) (N : Int) (hn : Lim 20 n) (W w : World) (hown : OwnB W w A n c l) (hB : Below W.heap.size W w) :
    Calls Tryz.prog 155 #[.slice A n c, .int .i64 N] w (GotB W (l ++ Pk.enc (Pk.held N))) := by
  have hT : PutT (Pk.held N) := Pk.held_le N
  have HL := Lib.hid (Pk.enc_length (Pk.held N))
  have HO := Lib.hid hown
  clear hown
  go_enter Tryz.func155, Tryz.ntmps155
  go_wp2_with (go_at_call 135; refine (held_any _ _).mono ?_; rintro e w' ⟨rfl, rfl⟩)
  go_loopw [0, 1] (fun s0 s1 wr => ∃ (m : Nat) (A' : Option Addr) (n' c' : Nat) (l' : List Nat), PutT m ∧ s1 = .int .i64 m ∧ s0 = .slice A' n' c' ∧ OwnB W wr A' n' c' l' ∧ Below W.heap.size W wr ∧ Hid (l' ++ Pk.enc m = l ++ Pk.enc (Pk.held N)) ∧ n' ≤ n + 9)
    (fun _ s1 _ => (intOf s1).toNat)
  case atStart => exact ⟨_, _, _, _, l, hT, rfl, rfl, HO.out, hB, Lib.hid rfl, by omega⟩
  case round =>
    obtain ⟨m, A', n', c', l', hm, rfl, rfl, hown, hB', hl, hn'⟩ := hrel
    by_cases hlt : 128 ≤ m
    · have hm2 : (m : Int) ≤ 4611686018427387904 := by have : m ≤ Pk.top := hm; unfold Pk.top at this; omega
      have HE := Lib.hid (Pk.enc_big hlt hm)
      have hq : PutT (m / 128) := by have : m ≤ Pk.top := hm; exact Nat.le_trans (Nat.div_le_self _ _) this
      have HB := Lib.hid (Pk.enc_length (m / 128))
      go_wp2_with (first
        | (at_builtin
           refine wpList_append_bytes (W := W) byteT (.tmp 9) (.tmp 14) rfl (by rfl) rfl (hown.alloc _) rfl (Rd.oneI wr (x := m % 128 + 128) (by omega) 5) (by have := hn.out; omega) (hB'.alloc hB'.size _) ?_
           intro A1 c1 w1 hown1 hr1 hB1)
        | fail)
      go_roundw
      case rel =>
        have HL' := Lib.hid (congrArg List.length hl.out)
        refine ⟨m / 128, A1, n' + 1, c1, l' ++ [m % 128 + 128], hq, by go_num, rfl, hown1, hB1, Lib.hid ?_, ?_⟩
        · have := hl.out
          rw [HE.out] at this
          rw [← this, List.append_assoc]; rfl
        · have h1 := HL'.out
          have h2 := HL.out
          have h3 := own_len hown
          have h4 := own_len HO.out
          have h5 := HB.out
          rw [HE.out] at h1
          simp only [List.length_append, List.length_cons] at h1
          omega
      case measure => simp [intOf]; omega
    · have HE := Lib.hid (Pk.enc_small (n := m) (by omega))
      have hi : (m : Int) < 128 := by omega
      go_wp2_with (first
        | (at_builtin
           refine wpList_append_bytes (W := W) byteT (.tmp 18) (.tmp 21) rfl (by rfl) rfl (hown.alloc _) rfl (Rd.oneI wr (x := m) (by omega) 5) (by have := hn.out; omega) (hB'.alloc hB'.size _) ?_
           intro A1 c1 w1 hown1 hr1 hB1)
        | fail)
      go_ret
      have h1 := hl.out
      rw [HE.out] at h1
      rw [h1] at hown1
      exact ⟨_, _, _, rfl, hown1, hB1⟩
theorem num_any (l : List Nat) (A : Option Addr) (n c B : Nat) (N : Int) (hn : Lim 20 n) (w : World) (hr : Rd w B A n (bv l)) :
    Calls Tryz.prog 115 #[.slice A n c, .int .i64 N] w (GotB w (l ++ Pk.enc (Pk.held N))) := by
  have hl := hr.length
  have H := Lib.hid hr
  have HL := Lib.hid hl
  clear hr hl
  go_enter Tryz.func115, Tryz.ntmps115
  go_wp2_with fail
  refine (withRoom_any l A n c B 9 (by have := hn.out; unfold Lim; omega) (by omega) (by omega) _ H.out).mono ?_
  rintro e w1 ⟨A1, n1, c1, rfl, hown1, hB1⟩
  have hn1 : Lim 20 n1 := by have := own_len hown1; have := HL.out; have := hn.out; unfold Lim; omega
  go_wp2_with fail
  refine (put_any l A1 n1 c1 N hn1 w w1 hown1 hB1).mono ?_
  rintro e w2 ⟨A2, n2, c2, rfl, hown2, hB2⟩
  go_wp2
  go_ret
  exact ⟨_, _, _, rfl, hown2, hB2⟩
theorem held_len {n : Nat} (h : Lim 20 n) : Pk.held (n : Int) = n := Pk.held_of (by have := h.out; unfold Pk.top; omega)
theorem bytes_any (l x : List Nat) (A : Option Addr) (n c B : Nat) (A' : Option Addr) (n' c' B' : Nat) (hn : Lim 20 n) (hn' : Lim 20 n') (hs : Lim 20 (n + n')) (w : World) (hr : Rd w B A n (bv l)) (hr' : Rd w B' A' n' (bv x)) :
    Calls Tryz.prog 114 #[.slice A n c, .slice A' n' c'] w (GotB w (l ++ Pk.encB x)) := by
  have HL := Lib.hid hr.length
  have HX := Lib.hid hr'.length
  have H := Lib.hid hr
  have H' := Lib.hid hr'.fit
  have HE := Lib.hid (Pk.enc_length n')
  have HD := Lib.hid (held_len hn')
  have hb : (n' : Int) ≤ 1099511627756 := by have := hn'.out; omega
  clear hr hr'
  go_enter Tryz.func114, Tryz.ntmps114
  go_wp2_with fail
  refine (withRoom_any l A n c B (9 + n') (by have := hn.out; unfold Lim; omega) (by omega) (by omega) _ H.out).mono ?_
  rintro e w1 ⟨A1, n1, c1, rfl, hown1, hB1⟩
  have hn1 : Lim 20 n1 := by have := own_len hown1; have := HL.out; have := hn.out; unfold Lim; omega
  have HN1 := Lib.hid (show n1 = n by have := own_len hown1; have := HL.out; omega)
  go_wp2_with fail
  refine (put_any l A1 n1 c1 n' hn1 w w1 hown1 hB1).mono ?_
  rintro e w2 ⟨A2, n2, c2, rfl, hown2, hB2⟩
  have HN2 := Lib.hid (own_len hown2)
  go_wp2_with (first
    | (at_builtin
       refine wpList_append_bytes (W := w) byteT (.tmp 12) (.tmp 13) rfl (by rfl) rfl hown2 rfl (H'.out.below hB2) (by
         have h1 := HN2.out; have h2 := HN1.out; have h3 := HL.out; have h4 := HE.out; have h5 := hs.out
         rw [HD.out, List.length_append] at h1; omega) hB2 ?_
       intro A3 c3 w3 hown3 hr3 hB3)
    | fail)
  go_ret
  refine ⟨_, _, _, rfl, ?_, hB3⟩
  have h6 := hown3
  rw [HD.out] at h6
  unfold Pk.encB
  rw [HX.out, ← List.append_assoc]
  exact h6
/-- a reader at block b: what is left to read, or none -/
def RdrAt (w : World) (b : Nat) (s : Pk.St) : Prop := ∃ A n c, Blk w b 105 #[.slice A n c, .bool s.isNone] ∧ n ≤ c ∧ c ≤ maxLen ∧ Lim 40 n ∧ RdT w 5 A n (bv (s.getD [])) ∧ ∀ x ∈ s.getD [], x < 256
theorem RdrAt.below {w w' : World} {b : Nat} {s : Pk.St} (h : RdrAt w b s) (hb : Below w.heap.size w w') : RdrAt w' b s := by
  obtain ⟨A, n, c, h1, h2, h3, h4, h5, h6⟩ := h
  exact ⟨A, n, c, h1.below hb, h2, h3, h4, h5.below hb, h6⟩
theorem RdrAt.lt {w : World} {b : Nat} {s : Pk.St} (h : RdrAt w b s) : b < w.heap.size := by
  obtain ⟨A, n, c, h1, _⟩ := h
  exact h1.lt
/-- a call that began in W answered a new reader of l -/
def GotRd (W : World) (l : List Nat) (e : Ending) (w' : World) : Prop := ∃ b, e = .returned (.pointer (some ⟨b, 0, none⟩)) ∧ RdrAt w' b (some l) ∧ W.heap.size ≤ b ∧ Below W.heap.size W w'
theorem readP_any (l : List Nat) (A : Option Addr) (n c B : Nat) (hn : Lim 40 n) (hl : ∀ x ∈ l, x < 256) (w : World) (hr : Rd w B A n (bv l)) :
    Calls Tryz.prog 21 #[.slice A n c] w (GotRd w l) := by
  have HL := Lib.hid hr.length
  have H := Lib.hid hr
  have HX := Lib.hid hl
  clear hr hl
  go_enter Tryz.func21, Tryz.ntmps21
  go_wp2_with fail
  refine (withRoom_any l A n c B 0 (by have := hn.out; unfold Lim; omega) (by omega) (by omega) _ H.out).mono ?_
  rintro e w1 ⟨A1, n1, c1, rfl, hown1, hB1⟩
  have hn1 : Lim 40 n1 := by have := own_len hown1; have := HL.out; have := hn.out; unfold Lim; omega
  go_wp2
  go_ret
  exact ⟨w1.heap.size, rfl, ⟨A1, n1, c1, Blk.new _ _ _, (own_cap hown1).1, (own_cap hown1).2, hn1, (RdT.own hown1).alloc _, HX.out⟩, hB1.size, hB1.alloc hB1.size _⟩
theorem run_min9 {P : Program} (w : World) (ts : Array TypeId) (t : TypeId) (n : Nat) :
    (Builtin.min_ ts t #[.int .i64 (n : Int), .int .i64 9]).run P w = .ok (.int .i64 ((min n 9 : Nat) : Int)) w := by
  have e : ((min n 9 : Nat) : Int) = if (9 : Int) < (n : Int) then 9 else (n : Int) := by omega
  rw [e]
  simp [Builtin.min_, Builtin.min2]
theorem i64_or_nat (a b : Nat) (ha : a < 9223372036854775808) (hb : b < 9223372036854775808) : bits .or .i64 (a : Int) (b : Int) = ((a ||| b : Nat) : Int) := by
  show IntKind.i64.wrap ((BitVec.ofInt 64 a ||| BitVec.ofInt 64 b).toNat : Int) = _
  have hlt : a ||| b < 2 ^ 63 := Nat.or_lt_two_pow (by omega) (by omega)
  have e : (BitVec.ofInt 64 a ||| BitVec.ofInt 64 b).toNat = a ||| b := by
    rw [BitVec.toNat_or, BitVec.toNat_ofInt, BitVec.toNat_ofInt]
    have h1 : ((a : Int) % ((2 ^ 64 : Nat) : Int)).toNat = a := by omega
    have h2 : ((b : Int) % ((2 ^ 64 : Nat) : Int)).toNat = b := by omega
    rw [h1, h2]
  rw [e, IntKind.wrap_i64]
  omega
theorem or_group {k acc x : Nat} (hk : k < 9) (ha : acc < 128 ^ k) (hx : x < 256) :
    bits .or .i64 (acc : Int) (wrap64 ((x : Int) % 128 * 2 ^ (7 * k))) = ((acc + x % 128 * 128 ^ k : Nat) : Int) := by
  have e128 : (128 : Nat) ^ k = 2 ^ (7 * k) := by rw [Nat.pow_mul]
  have hp : (128 : Nat) ^ k ≤ 128 ^ 8 := Nat.pow_le_pow_right (by omega) (by omega)
  have hm : x % 128 * 128 ^ k ≤ 127 * 128 ^ k := Nat.mul_le_mul_right _ (by omega)
  have e1 : ((x : Int) % 128 * 2 ^ (7 * k)) = ((x % 128 * 128 ^ k : Nat) : Int) := by rw [e128]; simp
  have e2 : wrap64 ((x : Int) % 128 * 2 ^ (7 * k)) = ((x % 128 * 128 ^ k : Nat) : Int) := by
    rw [e1]
    unfold wrap64
    generalize x % 128 * 128 ^ k = q at hm
    omega
  rw [e2, i64_or_nat _ _ (by omega) (by omega), Nat.or_comm, nat_join (7 * k) _ _ (by rw [e128]; exact Nat.mul_mod_left _ _) (by rw [← e128]; exact ha), Nat.add_comm]
set_option maxRecDepth 100000 in
theorem first_any (l : List Nat) (A : Option Addr) (n c B : Nat) (hl : ∀ x ∈ l, x < 256) (hc : n ≤ c) (hn : Lim 0 n) (w : World) (hr : Rd w B A n (bv l)) :
    Calls Tryz.prog 134 #[.slice A n c] w fun e w' => e = .returned (.tuple #[.int .i64 ((Pk.first l).1 : Nat), .int .i64 ((Pk.first l).2 : Nat)]) ∧ w = w' := by
  have HL := Lib.hid hr.length
  have HX := Lib.hid hl
  obtain ⟨i, hi1, hi2, hi3, hi4⟩ := info_parts byteT.info
  have H9 := Lib.hid (run_slice_to (P := Tryz.prog) (t := 24) byteT.under hi1 A n c (min n 9) (by omega))
  obtain ⟨m, hm1, hm2, hm3, hmin, hsl⟩ : ∃ m : Nat, m ≤ n ∧ m ≤ 9 ∧ (m = n ∨ m = 9) ∧ (∀ (w : World) ts t, (Builtin.min_ ts t #[.int .i64 (n : Int), .int .i64 9]).run Tryz.prog w = .ok (.int .i64 (m : Int)) w) ∧
      ∀ w : World, (Instr.slice 24 (.slice A n c) none (some (.int .i64 (m : Int))) none).run Tryz.prog w = .ok (.slice A m c) w :=
    ⟨min n 9, by omega, by omega, by omega, fun w ts t => run_min9 w ts t n, H9.out⟩
  have H := Lib.hid (hr.take hm1)
  have HM := Lib.hid hm3
  clear hr hl hi1 hi2 hi3 hi4 H9 hm3
  go_enter Tryz.func134, Tryz.ntmps134
  go_wp2_with fail
  go_loop [2, 12] (fun s2 s12 => ∃ (k acc : Nat), k ≤ m ∧ s12 = .int .i64 k ∧ s2 = .int .i64 acc ∧ Hid (Pk.dec k acc (l.drop k) = Pk.first l ∧ acc < 128 ^ k)) (fun _ i => m - (intOf i).toNat)
  case atStart => exact ⟨0, 0, by omega, rfl, rfl, Lib.hid ⟨rfl, by simp⟩⟩
  case round =>
    obtain ⟨k, acc, hk, rfl, rfl, hd⟩ := hrel
    by_cases hlt : k < m
    · have hkl : k < l.length := by have := HL.out; omega
      obtain ⟨b, o, rfl, hk', hcell⟩ := (show Rd w B A m (bv (l.take m)) by rw [bv_take]; exact H.out).bytes_at hlt
      have HT := Lib.hid (show (l.take m)[k] = l[k] by simp)
      rw [HT.out] at hcell
      have hx : l[k] < 256 := HX.out _ (List.getElem_mem hkl)
      obtain ⟨x, hxe⟩ : ∃ x, x = l[k] := ⟨_, rfl⟩
      rw [← hxe] at hcell hx
      have HE := Lib.hid hxe
      clear hxe
      by_cases hbig : 128 ≤ x
      · have HD := Lib.hid (show Pk.dec k acc (l.drop k) = Pk.dec (k + 1) (acc + x % 128 * 128 ^ k) (l.drop (k + 1)) by
          rw [List.drop_eq_getElem_cons hkl, ← HE.out]
          simp only [Pk.dec]
          rw [if_neg (by omega), if_pos hbig])
        go_wp2
        go_round
        case rel =>
          refine ⟨k + 1, acc + x % 128 * 128 ^ k, by omega, by go_num, by rw [or_group (by omega) hd.out.2 hx], Lib.hid ⟨?_, ?_⟩⟩
          · rw [← HD.out]; exact hd.out.1
          · have h1 := hd.out.2
            have h2 : 128 ^ (k + 1) = 128 * 128 ^ k := by rw [Nat.pow_succ, Nat.mul_comm]
            have h3 : x % 128 * 128 ^ k ≤ 127 * 128 ^ k := Nat.mul_le_mul_right _ (by omega)
            omega
        case measure => simp [intOf]; omega
      · by_cases hz : x = 0 ∧ 0 < k
        · have HD := Lib.hid (show Pk.dec k acc (l.drop k) = (0, 0) by
            rw [List.drop_eq_getElem_cons hkl, ← HE.out]
            simp only [Pk.dec]
            rw [if_neg (by omega), if_neg hbig, if_pos hz])
          obtain ⟨rfl, hk0⟩ := hz
          have hk1 : ((k : Int) == 0) = false := by simp; omega
          go_wp2
          go_ret2
          have h1 : Pk.first l = (0, 0) := by rw [← hd.out.1]; exact HD.out
          exact ⟨by rw [h1]; rfl, rfl⟩
        · have HD := Lib.hid (show Pk.dec k acc (l.drop k) = (acc + x * 128 ^ k, k + 1) by
            rw [List.drop_eq_getElem_cons hkl, ← HE.out]
            simp only [Pk.dec]
            rw [if_neg (by omega), if_neg hbig, if_neg hz])
          have HO := Lib.hid (or_group (k := k) (by omega) hd.out.2 hx)
          have hx8 : (x : Int) < 128 := by omega
          have HF := Lib.hid (show (Ending.returned (.tuple #[.int .i64 (bits .or .i64 (acc : Int) (wrap64 ((x : Int) % 128 * 2 ^ (7 * k)))), .int .i64 ((k : Int) + 1)])) = .returned (.tuple #[.int .i64 ((Pk.first l).1 : Nat), .int .i64 ((Pk.first l).2 : Nat)]) by
            have h1 : Pk.first l = (acc + x * 128 ^ k, k + 1) := by rw [← hd.out.1]; exact HD.out
            have h2 : x % 128 = x := by omega
            rw [HO.out, h1, h2]; rfl)
          by_cases hx0 : x = 0
          · have hk0 : ¬ (0 < (k : Int)) := by omega
            have hz0 : ((x : Int) == 0) = true := by simp; omega
            clear hx0 hz hd HD HO
            go_wp2
            go_ret2
            exact ⟨HF.out, rfl⟩
          · have hz0 : ((x : Int) == 0) = false := by simp; omega
            clear hx0 hz hd HD HO
            go_wp2
            go_ret2
            exact ⟨HF.out, rfl⟩
    · have HD := Lib.hid (show Pk.dec k acc (l.drop k) = (0, 0) by
        rcases HM.out with h | h
        · rw [List.drop_of_length_le (by have := HL.out; omega)]; rfl
        · rcases Nat.lt_or_ge k l.length with h2 | h2
          · rw [List.drop_eq_getElem_cons h2]
            simp only [Pk.dec]
            rw [if_pos (by omega)]
          · rw [List.drop_of_length_le h2]; rfl)
      go_wp2
      go_ret2
      have h1 : Pk.first l = (0, 0) := by rw [← hd.out.1]; exact HD.out
      exact ⟨by rw [h1]; rfl, rfl⟩
end Go.Proofs.YthfnnieklkaefaaGreat

namespace Go.Proofs.YthfnnieklkaefaaGreat
open Go.RowKit
set_option linter.unusedVariables false

/-- only block b has turned; what is new stands behind -/
abbrev Only (b : Nat) (w w' : World) : Prop := w.grownBy w' (some b)
theorem only_set {a w : World} {g : Nat} (h : Only g a w) (i : Nat) (u : Value) : Only g a (w.setCell ⟨g, i, none⟩ u) :=
  ⟨h.os, h.tape, h.output, by simpa [World.setCell] using h.size, fun k hk hne => (Below.heap_setCell w ⟨g, i, none⟩ u k (by rintro rfl; exact hne rfl)).trans (h.block k hk hne)⟩
theorem only_refl (g : Nat) (w : World) : Only g w w := World.grownBy.refl w _
theorem only_trans {a b c : World} {g : Nat} (h : Only g a b) (k : Only g b c) : Only g a c :=
  ⟨k.os.trans h.os, k.tape.trans h.tape, k.output.trans h.output, Nat.le_trans h.size k.size, fun i hi hn => (k.block i (Nat.lt_of_lt_of_le hi h.size) hn).trans (h.block i hi hn)⟩
theorem only_below {a w w' : World} {g B : Nat} (h : Only g a w) (hb : Below B w w') (hB : a.heap.size ≤ B) : Only g a w' :=
  ⟨hb.os.trans h.os, hb.tape.trans h.tape, hb.output.trans h.output, Nat.le_trans h.size hb.size, fun i hi hn => (hb.block i (by omega)).trans (h.block i hi hn)⟩
theorem below_only {W w w' : World} {g : Nat} (hB : Below W.heap.size W w) (h : Only g w w') (hg : W.heap.size ≤ g) : Below W.heap.size W w' :=
  hB.grown h hB.size (fun k hk => by injection hk with hk; omega)

theorem fail_any (w : World) (b : Nat) (s : Pk.St) (h : RdrAt w b s) :
    Calls Tryz.prog 136 #[.pointer (some ⟨b, 0, none⟩)] w fun e w' => e = .returned (.tuple #[]) ∧ RdrAt w' b none ∧ Only b w w' := by
  obtain ⟨A, n, c, hblk, h2, h3, h4, h5, h6⟩ := h
  have hc0 : w.cell? ⟨b, 0, none⟩ = some (.slice A n c) := hblk.cell 0
  have hc1 : w.cell? ⟨b, 1, none⟩ = some (.bool s.isNone) := hblk.cell 1
  have hf0 := hblk.frozen 0
  have hf1 := hblk.frozen 1
  have HB := Lib.hid hblk
  clear hblk h2 h3 h4 h5 h6
  go_enter Tryz.func136, Tryz.ntmps136
  go_wp2
  go_end0
  have hb := HB.out
  exact ⟨rfl, ⟨none, 0, 0, (hb.set_ 1 (.bool true)).set_ 0 (.slice none 0 0), by omega, by unfold maxLen; omega, by unfold Lim; omega, RdT.none_ _ _ _, by intro x hx; cases hx⟩, only_set (only_set (only_refl b w) 1 _) 0 _⟩
theorem first_is {l : List Nat} {v sz : Nat} (hf : Pk.first l = (v, sz)) (A : Option Addr) (n c B : Nat) (hl : ∀ x ∈ l, x < 256) (hc : n ≤ c) (hn : Lim 0 n) (w : World) (hr : Rd w B A n (bv l)) :
    Calls Tryz.prog 134 #[.slice A n c] w fun e w' => e = .returned (.tuple #[.int .i64 (v : Int), .int .i64 (sz : Int)]) ∧ w = w' := by
  have h := first_any l A n c B hl hc hn w hr
  rw [hf] at h
  exact h
/-- the reader's block turns to what is left -/
theorem rdr_cut {w : World} {b n c k : Nat} {A : Option Addr} {l : List Nat} (hb : Blk w b 105 #[.slice A n c, .bool false]) (hc : n ≤ c) (hm : c ≤ maxLen) (hn : Lim 40 n) (hr : RdT w 5 A n (bv l)) (hl : ∀ x ∈ l, x < 256) (hk : k ≤ n) :
    RdrAt (w.setCell ⟨b, 0, none⟩ (.slice (cutAt A c k) (n - k) (c - k))) b (some (l.drop k)) := by
  refine ⟨cutAt A c k, n - k, c - k, hb.set_ 0 _, by omega, by omega, by have := hn.out; unfold Lim; omega, ?_, fun x hx => hl x (List.mem_of_mem_drop hx)⟩
  have h1 := (hr.drop hk hc).grown (only_set (only_refl b w) 0 (.slice (cutAt A c k) (n - k) (c - k))) hb (by decide)
  rw [← bv_drop] at h1
  exact h1
theorem rdr_cuts {w : World} {b n c k : Nat} {A : Option Addr} {s : Pk.St} (hb : Blk w b 105 #[.slice A n c, .bool s.isNone]) (hc : n ≤ c) (hm : c ≤ maxLen) (hn : Lim 40 n) (hr : RdT w 5 A n (bv (s.getD []))) (hl : ∀ x ∈ s.getD [], x < 256) (hk : k ≤ n) :
    RdrAt (w.setCell ⟨b, 0, none⟩ (.slice (cutAt A c k) (n - k) (c - k))) b (s.map (List.drop k)) := by
  cases s with
  | some l => exact rdr_cut hb hc hm hn hr hl hk
  | none =>
    refine ⟨cutAt A c k, n - k, c - k, hb.set_ 0 _, by omega, by omega, by have := hn.out; unfold Lim; omega, ?_, fun x hx => by cases hx⟩
    have h0 : n = 0 := by have := hr.rd.length; simpa using this.symm
    subst h0
    rw [Nat.zero_sub]
    exact RdT.none_ _ _ _
/-- what Num answers, and leaves -/
def NumP (w : World) (b : Nat) (v : Nat) (s : Pk.St) (e : Ending) (w' : World) : Prop := e = .returned (.int .i64 (v : Int)) ∧ RdrAt w' b s ∧ Only b w w'
set_option maxRecDepth 100000 in
theorem rnum_any (w : World) (b : Nat) (s : Pk.St) (most : Int) (h : RdrAt w b s) :
    Calls Tryz.prog 70 #[.pointer (some ⟨b, 0, none⟩), .int .i64 most] w (NumP w b (Pk.numV s most) (Pk.numS s most)) := by
  have HR := Lib.hid h
  obtain ⟨A, n, c, hblk, h2, h3, h4, h5, h6⟩ := h
  have hc0 : w.cell? ⟨b, 0, none⟩ = some (.slice A n c) := hblk.cell 0
  have hf0 := hblk.frozen 0
  obtain ⟨v, sz, hf⟩ : ∃ v sz, Pk.first (s.getD []) = (v, sz) := ⟨_, _, rfl⟩
  have hsz := Pk.first_size (s.getD [])
  have hlen := h5.rd.length
  rw [hf] at hsz
  have hszn : sz ≤ n := by have := hsz.1; simp only at this; omega
  have HB := Lib.hid hblk
  have HT := Lib.hid h5
  have HL := Lib.hid h6
  have HF := Lib.hid hf
  have HM := Lib.hid h3
  clear hblk h5 h6 hlen hsz hf h3
  have hcall := Lib.hid (first_is HF.out A n c w.heap.size HL.out h2 (by have := h4.out; unfold Lim; omega) w HT.out.rd)
  by_cases hz : sz = 0
  · have HN := Lib.hid (show Pk.numN s most = none by
      cases s with
      | none => rfl
      | some l => have := HF.out; simp only [Option.getD_some] at this; simp [Pk.numN, Pk.rNum, this, hz])
    subst hz
    go_enter Tryz.func70, Tryz.ntmps70
    go_wp2_with fail
    refine hcall.out.mono ?_
    rintro e w' ⟨rfl, rfl⟩
    go_wp2_with fail
    refine (fail_any w b s HR.out).mono ?_
    rintro e w' ⟨rfl, hr1, ho1⟩
    go_wp2
    go_ret
    unfold NumP Pk.numV Pk.numS
    rw [HN.out]
    exact ⟨rfl, hr1, ho1⟩
  · obtain ⟨l, rfl⟩ : ∃ l, s = some l := by
      cases s with
      | none => exfalso; apply hz; have := HF.out; simp [Pk.first, Pk.dec] at this; omega
      | some l => exact ⟨l, rfl⟩
    have hzi : ((sz : Int) == 0) = false := by simp; omega
    by_cases hm : Pk.held most < v
    · have HN := Lib.hid (show Pk.numN (some l) most = none by
        have := HF.out; simp only [Option.getD_some] at this; simp [Pk.numN, Pk.rNum, this, hm])
      go_enter Tryz.func70, Tryz.ntmps70
      go_wp2_with fail
      refine hcall.out.mono ?_
      rintro e w' ⟨rfl, rfl⟩
      go_wp2_with (go_at_call 135; refine (held_any _ _).mono ?_; rintro e w' ⟨rfl, rfl⟩)
      refine (fail_any w b _ HR.out).mono ?_
      rintro e w' ⟨rfl, hr1, ho1⟩
      go_wp2
      go_ret
      unfold NumP Pk.numV Pk.numS
      rw [HN.out]
      exact ⟨rfl, hr1, ho1⟩
    · have HN := Lib.hid (show Pk.numN (some l) most = some (v, l.drop sz) by
        have := HF.out; simp only [Option.getD_some] at this; simp [Pk.numN, Pk.rNum, this, hm, hz])
      obtain ⟨i, hi1, hi2, hi3, hi4⟩ := info_parts byteT.info
      have hsl := run_slice_from (P := Tryz.prog) (t := 24) byteT.under hi1 hi3 A n c sz hszn
      clear hi1 hi2 hi3 hi4 hz
      go_enter Tryz.func70, Tryz.ntmps70
      go_wp2_with fail
      refine hcall.out.mono ?_
      rintro e w' ⟨rfl, rfl⟩
      go_wp2_with (go_at_call 135; refine (held_any _ _).mono ?_; rintro e w' ⟨rfl, rfl⟩)
      go_ret
      unfold NumP Pk.numV Pk.numS
      rw [HN.out]
      exact ⟨rfl, rdr_cut HB.out h2 HM.out h4 HT.out HL.out hszn, only_set (only_refl b w) 0 _⟩
/-- what Bytes answers, and leaves -/
def BytP (W : World) (b : Nat) (vs : List Nat) (s : Pk.St) (e : Ending) (w' : World) : Prop := ∃ A n c, e = .returned (.slice A n c) ∧ OwnB W w' A n c vs ∧ RdrAt w' b s ∧ Only b W w'
theorem own_only {W w w' : World} {A : Option Addr} {n c b : Nat} {l : List Nat} (h : OwnB W w A n c l) (ho : Only b w w') (hb : b < W.heap.size) : OwnB W w' A n c l :=
  h.kept ho (by
    rcases he : (Value.slice A n c).ownBlock with _ | k
    · exact .inl rfl
    · right
      intro h2
      injection h2 with h2
      have := (h.lt k he).1
      omega)
/-- what is a row of the call's own in a later world of it -/
theorem own_base {W W' w : World} {A : Option Addr} {n c : Nat} {l : List Nat} (h : OwnB W' w A n c l) (hs : W.heap.size ≤ W'.heap.size) : OwnB W w A n c l := by
  obtain ⟨h1, h2⟩ := h
  refine ⟨h1, ?_⟩
  rcases h2 with h2 | ⟨g, cap, cur, hv, hb, r⟩
  · exact .inl h2
  · exact .inr ⟨g, cap, cur, hv, by omega, r⟩
set_option maxRecDepth 100000 in
theorem rbytes_any (w : World) (b : Nat) (s : Pk.St) (most : Int) (h : RdrAt w b s) :
    Calls Tryz.prog 71 #[.pointer (some ⟨b, 0, none⟩), .int .i64 most] w (BytP w b (Pk.bytV s most) (Pk.bytS s most)) := by
  have hbl := h.lt
  have hcall := Lib.hid (rnum_any w b s most h)
  clear h
  by_cases hv : ((Pk.numS s most).getD []).length < Pk.numV s most
  · obtain ⟨hb1, hb2⟩ := Pk.byt_no hv
    rw [hb1, hb2]
    clear hb1 hb2
    go_enter Tryz.func71, Tryz.ntmps71
    go_wp2_with fail
    refine hcall.out.mono ?_
    rintro e w1 ⟨rfl, hr1, ho1⟩
    have HR := Lib.hid hr1
    obtain ⟨A, n, c, hblk, h2, h3, h4, h5, h6⟩ := hr1
    have hc0 : w1.cell? ⟨b, 0, none⟩ = some (.slice A n c) := hblk.cell 0
    have hlt : n < Pk.numV s most := by have := h5.rd.length; omega
    clear hblk h5 h6 hv h3
    go_wp2_with fail
    refine (fail_any w1 b _ HR.out).mono ?_
    rintro e w2 ⟨rfl, hr2, ho2⟩
    go_wp2
    go_ret
    exact ⟨none, 0, 0, rfl, World.ownsRow_nil _ _ _ _, hr2, only_trans ho1 ho2⟩
  · obtain ⟨hb1, hb2⟩ := Pk.byt_of hv
    have HB1 := Lib.hid hb1
    have HB2 := Lib.hid hb2
    clear hb1 hb2
    go_enter Tryz.func71, Tryz.ntmps71
    go_wp2_with fail
    refine hcall.out.mono ?_
    rintro e w1 ⟨rfl, hr1, ho1⟩
    obtain ⟨A, n, c, hblk, h2, h3, h4, h5, h6⟩ := hr1
    have hc0 : w1.cell? ⟨b, 0, none⟩ = some (.slice A n c) := hblk.cell 0
    have hlt : Pk.numV s most ≤ n := by have := h5.rd.length; omega
    have hltc : Pk.numV s most ≤ c := by omega
    have HT := Lib.hid h5
    have HB := Lib.hid hblk
    have HL := Lib.hid h6
    have HM := Lib.hid h3
    obtain ⟨i, hi1, hi2, hi3, hi4⟩ := info_parts byteT.info
    have hs1 := run_slice_from (P := Tryz.prog) (t := 24) byteT.under hi1 hi3 A n c (Pk.numV s most) hlt
    have hs2 := run_slice_to (P := Tryz.prog) (t := 24) byteT.under hi1 A n c (Pk.numV s most) hltc
    clear hblk h5 h6 hv h3 hi1 hi2 hi3 hi4
    go_wp2_with fail
    refine (withRoom_any (((Pk.numS s most).getD []).take (Pk.numV s most)) A (Pk.numV s most) c w1.heap.size 0 (by have := h4.out; unfold Lim; omega) (by omega) (by omega) _ (by rw [bv_take]; exact (HT.out.take hlt).rd)).mono ?_
    rintro e w2 ⟨A2, n2, c2, rfl, hown2, hB2⟩
    have hb2 := HB.out.below hB2
    have hc1 : w2.cell? ⟨b, 0, none⟩ = some (.slice A n c) := hb2.cell 0
    have hf1 := hb2.frozen 0
    have HB3 := Lib.hid hb2
    clear hc0 hb2
    go_wp2
    go_ret
    unfold BytP
    rw [HB1.out, HB2.out]
    have ho2 := only_set (only_below ho1 hB2 ho1.size) 0 (.slice (cutAt A c (Pk.numV s most)) (n - Pk.numV s most) (c - Pk.numV s most))
    exact ⟨A2, n2, c2, rfl, own_only (own_base hown2 ho1.size) (only_set (only_refl b w2) 0 _) hbl, rdr_cuts HB3.out h2 HM.out h4 (HT.out.below hB2) HL.out hlt, ho2⟩
theorem ok_any (w : World) (b : Nat) (s : Pk.St) (h : RdrAt w b s) :
    Calls Tryz.prog 26 #[.pointer (some ⟨b, 0, none⟩)] w fun e w' => e = .returned (.bool s.isSome) ∧ w = w' := by
  obtain ⟨A, n, c, hblk, h2, h3, h4, h5, h6⟩ := h
  have hc1 : w.cell? ⟨b, 1, none⟩ = some (.bool s.isNone) := hblk.cell 1
  clear hblk h2 h3 h4 h5 h6
  cases s with
  | none =>
    go_enter Tryz.func26, Tryz.ntmps26
    go_wp2
    go_ret
    exact ⟨rfl, rfl⟩
  | some l =>
    go_enter Tryz.func26, Tryz.ntmps26
    go_wp2
    go_ret
    exact ⟨rfl, rfl⟩
/-- is all read, and well? -/
def Pk.endOf (s : Pk.St) : Bool := decide (s = some [])
theorem end_any (w : World) (b : Nat) (s : Pk.St) (h : RdrAt w b s) :
    Calls Tryz.prog 48 #[.pointer (some ⟨b, 0, none⟩)] w fun e w' => e = .returned (.bool (Pk.endOf s)) ∧ w = w' := by
  have HK := Lib.hid (ok_any w b s h)
  obtain ⟨A, n, c, hblk, h2, h3, h4, h5, h6⟩ := h
  have hc0 : w.cell? ⟨b, 0, none⟩ = some (.slice A n c) := hblk.cell 0
  have hlen := h5.rd.length
  clear hblk h2 h3 h4 h5 h6
  rcases s with _ | l
  · clear hlen
    go_enter Tryz.func48, Tryz.ntmps48
    go_wp2_with fail
    refine HK.out.mono ?_
    rintro e w1 ⟨rfl, rfl⟩
    go_wp2
    go_ret
    exact ⟨rfl, rfl⟩
  · obtain ⟨d, hd1, hd2⟩ : ∃ d : Bool, ((n : Int) == 0) = d ∧ Pk.endOf (some l) = d := by
      refine ⟨_, rfl, ?_⟩
      have hl : l.length = n := hlen
      unfold Pk.endOf
      rw [Bool.eq_iff_iff]
      cases l with
      | nil => simp at hl; simp; omega
      | cons x l => simp at hl; simp; omega
    have HD := Lib.hid hd2
    clear hlen hd2
    cases d
    all_goals
      go_enter Tryz.func48, Tryz.ntmps48
      go_wp2_with fail
      refine HK.out.mono ?_
      rintro e w1 ⟨rfl, rfl⟩
      go_wp2
      go_ret
      exact ⟨by rw [HD.out]; rfl, rfl⟩
end Go.Proofs.YthfnnieklkaefaaGreat

namespace Go.Proofs.YthfnnieklkaefaaGreat
open Go.RowKit
set_option linter.unusedVariables false
theorem rnum_is (w : World) (b : Nat) (s : Pk.St) (most : Int) (h : RdrAt w b s) (v : Nat) (s' : Pk.St) (hv : Pk.numV s most = v) (hs : Pk.numS s most = s') :
    Calls Tryz.prog 70 #[.pointer (some ⟨b, 0, none⟩), .int .i64 most] w (NumP w b v s') := by
  subst hv hs; exact rnum_any w b s most h
theorem rbytes_is (w : World) (b : Nat) (s : Pk.St) (most : Int) (h : RdrAt w b s) (v : List Nat) (s' : Pk.St) (hv : Pk.bytV s most = v) (hs : Pk.bytS s most = s') :
    Calls Tryz.prog 71 #[.pointer (some ⟨b, 0, none⟩), .int .i64 most] w (BytP w b v s') := by
  subst hv hs; exact rbytes_any w b s most h
theorem read_in {W w : World} {l : List Nat} {A : Option Addr} {n c B : Nat} (hn : Lim 40 n) (hl : ∀ x ∈ l, x < 256) (hr : Rd w B A n (bv l)) (hB : Below W.heap.size W w) :
    Calls Tryz.prog 21 #[.slice A n c] w fun e w' => ∃ b, e = .returned (.pointer (some ⟨b, 0, none⟩)) ∧ RdrAt w' b (some l) ∧ W.heap.size ≤ b ∧ w.heap.size ≤ b ∧ Below W.heap.size W w' ∧ Below w.heap.size w w' :=
  (readP_any l A n c B hn hl w hr).mono fun e w' ⟨b, h1, h2, h3, h4⟩ => ⟨b, h1, h2, Nat.le_trans hB.size h3, h3, hB.trans (h4.mono hB.size), h4⟩
theorem put_in {W w : World} {l l' : List Nat} {A : Option Addr} {n c B : Nat} {N : Int} (hn : Lim 20 n) (hr : Rd w B A n (bv l)) (hB : Below W.heap.size W w) (he : l ++ Pk.enc (Pk.held N) = l') :
    Calls Tryz.prog 115 #[.slice A n c, .int .i64 N] w fun e w' => ∃ A n c, e = .returned (.slice A n c) ∧ OwnB W w' A n c l' ∧ Below W.heap.size W w' ∧ Below w.heap.size w w' := by
  subst he
  refine (num_any l A n c B N hn w hr).mono ?_
  rintro e w' ⟨A, n, c, h1, h2, h3⟩
  exact ⟨A, n, c, h1, own_base h2 hB.size, hB.trans (h3.mono hB.size), h3⟩
theorem putb_in {W w : World} {l x l' : List Nat} {A : Option Addr} {n c B : Nat} {A' : Option Addr} {n' c' B' : Nat} (hr : Rd w B A n (bv l)) (hr' : Rd w B' A' n' (bv x)) (hn : Lim 20 (l.length + x.length)) (hB : Below W.heap.size W w) (he : l ++ Pk.encB x = l') :
    Calls Tryz.prog 114 #[.slice A n c, .slice A' n' c'] w fun e w' => ∃ A n c, e = .returned (.slice A n c) ∧ OwnB W w' A n c l' ∧ Below W.heap.size W w' ∧ Below w.heap.size w w' := by
  subst he
  have h1 := hr.length
  have h2 := hr'.length
  have h3 := hn.out
  refine (bytes_any l x A n c B A' n' c' B' (by unfold Lim; omega) (by unfold Lim; omega) (by unfold Lim; omega) w hr hr').mono ?_
  rintro e w' ⟨A, n, c, h1, h2, h3⟩
  exact ⟨A, n, c, h1, own_base h2 hB.size, hB.trans (h3.mono hB.size), h3⟩
end Go.Proofs.YthfnnieklkaefaaGreat

namespace Go.Proofs.YthfnnieklkaefaaGreat
open Go.RowKit
set_option linter.unusedVariables false
/-- blocks of other types than bytes stay as they are -/
structure OnlyB (w w' : World) : Prop where
  size : w.heap.size ≤ w'.heap.size
  blk : ∀ {g : Nat} {t : TypeId} {cs : Array Value}, 5 ≠ t → Blk w g t cs → Blk w' g t cs
section
variable {W w w' w'' : World} {A : Option Addr} {n c : Nat} {l : List Nat}
theorem OnlyB.trans (h : OnlyB w w') (h' : OnlyB w' w'') : OnlyB w w'' := ⟨Nat.le_trans h.size h'.size, fun hn hb => h'.blk hn (h.blk hn hb)⟩
theorem OnlyB.of_below (h : Below w.heap.size w w') : OnlyB w w' := ⟨h.size, fun _ hb => hb.below h⟩
theorem OnlyB.grown {base : Nat} {xs : List Value} (h : w.ownsRow base 5 1 (.slice A n c) n xs) (hg : w.grownBy w' (Value.slice A n c).ownBlock) : OnlyB w w' :=
  ⟨hg.size, fun hn hb => hb.apart_own h (Ne.symm hn) hg⟩
end
/-- l, in a row of W's own that may have been there -/
def GotPut (W w : World) (l : List Nat) (e : Ending) (w' : World) : Prop := ∃ A c, e = .returned (.slice A l.length c) ∧ OwnB W w' A l.length c l ∧ Below W.heap.size W w' ∧ OnlyB w w'
theorem GotPut.is {W w w' : World} {l l' : List Nat} {e : Ending} (h : GotPut W w l e w') (he : l = l') : GotPut W w l' e w' := he ▸ h
set_option maxRecDepth 100000 in
theorem putNum_any {W w : World} {A : Option Addr} {n c : Nat} {l : List Nat} (z : Int) (hl : l.length ≤ 1000000) (ho : OwnB W w A n c l) (hB : Below W.heap.size W w) :
    Calls Tryz.prog 56 #[.slice A n c, .int .i64 z] w (GotPut W w (l ++ Pk.enc (Pk.held z))) := by
  obtain rfl := own_len ho
  have HO := Lib.hid ho
  have HB := Lib.hid hB
  have HX : Hid (∀ w, Below W.heap.size W w → Calls Tryz.prog 115 #[.slice none 0 0, .int .i64 z] w fun e w' => ∃ A n c, e = .returned (.slice A n c) ∧ OwnB W w' A n c (Pk.enc (Pk.held z)) ∧ Below W.heap.size W w' ∧ Below w.heap.size w w') :=
    Lib.hid (fun w hb => put_in (W := W) (l := []) (B := 0) (n := 0) (by unfold Lim; omega) (Rd.none_ _ _ _) hb rfl)
  obtain ⟨x, hx⟩ : ∃ x, Pk.enc (Pk.held z) = x := ⟨_, rfl⟩
  have hxl : x.length ≤ 9 := by rw [← hx]; exact (Pk.enc_length _).2
  rw [hx] at HX ⊢
  clear ho hB hx
  go_enter Tryz.func56, Tryz.ntmps56
  go_wp2_with (first
    | (go_at_call 115; refine (HX.out _ HB.out).mono ?_; rintro e w1 ⟨A1, n1, c1, rfl, ho1, hB1, hb1⟩; obtain rfl := own_len ho1)
    | (at_builtin
       refine wpList_append_cells (W := W) cellB (.tmp 5) (.tmp 7) rfl (by rfl) rfl (own_below HO.out hb1) rfl (Rd.own_ ho1) (bv_one _) (by omega) (by omega) hB1 ?_
       intro A3 c3 w3 hown3 hB3 hg3)
    | fail)
  go_ret
  rw [← bv_app] at hown3
  refine ⟨A3, c3, by rw [List.length_append]; rfl, by rw [List.length_append]; exact hown3, hB3, (OnlyB.of_below hb1).trans (OnlyB.grown (own_below HO.out hb1) hg3)⟩
set_option maxRecDepth 100000 in
theorem putBytes_any {W w : World} {A A' : Option Addr} {n c n' c' : Nat} {l x : List Nat} (hl : l.length ≤ 1000000) (hx : x.length ≤ 100000) (ho : OwnB W w A n c l) (hr : Rd W W.heap.size A' n' (bv x)) (hB : Below W.heap.size W w) :
    Calls Tryz.prog 53 #[.slice A n c, .slice A' n' c'] w (GotPut W w (l ++ Pk.encB x)) := by
  obtain rfl := own_len ho
  obtain rfl := hr.length
  have HO := Lib.hid ho
  have HB := Lib.hid hB
  have HX : Hid (∀ w, Below W.heap.size W w → Calls Tryz.prog 114 #[.slice none 0 0, .slice A' x.length c'] w fun e w' => ∃ A n c, e = .returned (.slice A n c) ∧ OwnB W w' A n c (Pk.encB x) ∧ Below W.heap.size W w' ∧ Below w.heap.size w w') :=
    Lib.hid (fun w hb => putb_in (W := W) (l := []) (B := 0) (n := 0) (B' := W.heap.size) (Rd.none_ _ _ _) (hr.below hb) (by unfold Lim; simp; omega) hb rfl)
  have hxl := encB_length x
  obtain ⟨y, hy⟩ : ∃ y, Pk.encB x = y := ⟨_, rfl⟩
  rw [hy] at HX hxl ⊢
  clear ho hB hy hr
  go_enter Tryz.func53, Tryz.ntmps53
  go_wp2_with (first
    | (go_at_call 114; refine (HX.out _ HB.out).mono ?_; rintro e w1 ⟨A1, n1, c1, rfl, ho1, hB1, hb1⟩; obtain rfl := own_len ho1)
    | (at_builtin
       refine wpList_append_cells (W := W) cellB (.tmp 5) (.tmp 7) rfl (by rfl) rfl (own_below HO.out hb1) rfl (Rd.own_ ho1) (bv_one _) (by omega) (by omega) hB1 ?_
       intro A3 c3 w3 hown3 hB3 hg3)
    | fail)
  go_ret
  rw [← bv_app] at hown3
  refine ⟨A3, c3, by rw [List.length_append]; rfl, by rw [List.length_append]; exact hown3, hB3, (OnlyB.of_below hb1).trans (OnlyB.grown (own_below HO.out hb1) hg3)⟩
set_option maxHeartbeats 2000000 in
set_option maxRecDepth 100000 in
theorem putPair_any {W w : World} {A A1 A2 : Option Addr} {n c c1 c2 : Nat} {l : List Nat} {p : Pr} (hl : l.length ≤ 100000) (hp1 : p.1.length ≤ 100000) (hp2 : p.2.length ≤ 100000) (ho : OwnB W w A n c l) (h1 : Rd W W.heap.size A1 p.1.length (bv p.1)) (h2 : Rd W W.heap.size A2 p.2.length (bv p.2)) (hB : Below W.heap.size W w) :
    Calls Tryz.prog 58 #[.slice A n c, .agg #[.slice A1 p.1.length c1, .slice A2 p.2.length c2]] w (GotPut W w (l ++ Pk.encB p.1 ++ Pk.encB p.2)) := by
  obtain rfl := own_len ho
  obtain ⟨wz, hwz⟩ : ∃ wz, w.alloc (.cells #[.slice A1 p.1.length c1, .slice A2 p.2.length c2] 86) = wz := ⟨_, rfl⟩
  have hbz : Below w.heap.size w wz := by rw [← hwz]; exact (Below.refl _ _).alloc (Nat.le_refl _) _
  have hkz : Blk wz w.heap.size 86 #[.slice A1 p.1.length c1, .slice A2 p.2.length c2] := by rw [← hwz]; exact Blk.new _ _ _
  obtain ⟨g, hg⟩ : ∃ g, w.heap.size = g := ⟨_, rfl⟩
  rw [hg] at hkz
  have HZ := Lib.hid hbz
  have HO := Lib.hid (own_below ho hbz)
  have HB := Lib.hid (hB.trans (hbz.mono hB.size))
  have HR1 := Lib.hid h1
  have HR2 := Lib.hid h2
  have HP1 := Lib.hid hp1
  have HP2 := Lib.hid hp2
  have HW := Lib.hid hwz
  have HG := Lib.hid hg
  have HK := Lib.hid hkz
  obtain ⟨l1, e1⟩ : ∃ x, l ++ Pk.encB p.1 = x := ⟨_, rfl⟩
  have hl1 : l1.length ≤ 1000000 := by rw [← e1, List.length_append]; have := encB_length p.1; omega
  obtain ⟨l2, e2⟩ : ∃ x, l1 ++ Pk.encB p.2 = x := ⟨_, rfl⟩
  rw [e1, e2]
  have HE1 := Lib.hid e1
  have HE2 := Lib.hid e2
  have HL := Lib.hid (And.intro hl hl1)
  clear ho hbz hB h1 h2 hp1 hp2 hwz hg hkz e1 e2 hl hl1
  go_enter Tryz.func58, Tryz.ntmps58
  go_upto_region 1 with fail
  rw [HG.out, HW.out]
  refine wp_region_held_drew (S := fun w' => Blk w' g 86 #[.slice A1 p.1.length c1, .slice A2 p.2.length c2]) (by kernel_rfl) HK.out (fun _ => ?_)
  have HD : Hid (Below wz.heap.size wz wz.drew) := Lib.hid (Below.refl _ _).drew
  generalize wz.drew = wd at HD ⊢
  have HK := Lib.hid (HK.out.below HD.out)
  refine wpAnyH_take (i := 0) (v := .slice A l.length c) rfl (by kernel_rfl) (by kernel_rfl) (by kernel_rfl) (fun _ _ _ h => h) (Or.inl ⟨by kernel_rfl, fun w _ => by go_simp⟩) HK.out ?_
  refine wpAnyH_take (i := 1) (v := .pointer (some ⟨g, 0, none⟩)) rfl (by kernel_rfl) (by kernel_rfl) (by kernel_rfl) (fun _ _ _ h => h) (Or.inl ⟨by kernel_rfl, fun w _ => by go_simp⟩) HK.out ?_
  refine wpAnyH_take (i := 4) (v := .pointer (some ⟨g, 1, none⟩)) rfl (by kernel_rfl) (by kernel_rfl) (by kernel_rfl) (fun _ _ _ h => h) (Or.inl ⟨by kernel_rfl, fun w _ => by go_simp⟩) HK.out ?_
  refine wpAnyH_take (i := 2) (v := .slice A1 p.1.length c1) rfl (by kernel_rfl) (by kernel_rfl) (by kernel_rfl) (fun _ _ _ h => h) (Or.inl ⟨by kernel_rfl, fun w h => by have q := h.cell 0; go_simp⟩) HK.out ?_
  refine wpAnyH_take (i := 5) (v := .slice A2 p.2.length c2) rfl (by kernel_rfl) (by kernel_rfl) (by kernel_rfl) (fun _ _ _ h => h) (Or.inl ⟨by kernel_rfl, fun w h => by have q := h.cell 1; go_simp⟩) HK.out ?_
  refine wpAnyH_ready (rs := [3]) (by kernel_rfl) (by simp) ?_
  refine AllReadyH.cons rfl (fun K hK => ?_) AllReadyH.nil
  go_simp
  refine (putBytes_any (W := W) (c' := c1) (Nat.le_trans HL.out.1 (by omega)) HP1.out (own_below HO.out HD.out) HR1.out (HB.out.trans (HD.out.mono HB.out.size))).mono ?_
  rintro en w1 ⟨A3, c3, rfl, ho3, hB3, hb3⟩
  rw [HE1.out] at ho3 ⊢
  have HK3 := Lib.hid (hb3.blk (by decide) HK.out)
  go_simp
  refine hK.out _ _ HK3.out (fun _ => ?_)
  clear hK K
  refine wpAnyH_ready (rs := [6]) (by kernel_rfl) (by simp) ?_
  refine AllReadyH.cons rfl (fun K hK => ?_) AllReadyH.nil
  go_simp
  refine (putBytes_any (W := W) (c' := c2) HL.out.2 HP2.out ho3 HR2.out hB3).mono ?_
  rintro en w2 ⟨A4, c4, rfl, ho4, hB4, hb4⟩
  rw [HE2.out] at ho4 ⊢
  have HK4 := Lib.hid (hb4.blk (by decide) HK3.out)
  go_simp
  refine hK.out _ _ HK4.out (fun _ => ?_)
  clear hK K
  refine wpAnyH_take (i := 7) (v := .slice A4 l2.length c4) rfl (by kernel_rfl) (by kernel_rfl) (by kernel_rfl) (fun _ _ _ h => h) (Or.inl ⟨by kernel_rfl, fun w _ => by go_simp⟩) HK4.out ?_
  refine wpAnyH_done (by kernel_rfl) ?_ _
  go_wp2_with fail
  go_ret
  exact ⟨A4, c4, rfl, ho4, hB4, (((OnlyB.of_below HZ.out).trans (OnlyB.of_below HD.out)).trans hb3).trans hb4⟩
set_option maxHeartbeats 2000000 in
set_option maxRecDepth 100000 in
theorem putLast_any {W w : World} {A A1 : Option Addr} {n c c1 : Nat} {l : List Nat} {m : Ls} (hl : l.length ≤ 100000) (hv : m.v.length ≤ 100000) (hm : -1 ≤ m.n ∧ m.n ≤ 1073741824) (ho : OwnB W w A n c l) (h1 : Rd W W.heap.size A1 m.v.length (bv m.v)) (hB : Below W.heap.size W w) :
    Calls Tryz.prog 60 #[.slice A n c, .agg #[.int .i64 m.s, .int .i64 m.q, .int .i64 m.e, .slice A1 m.v.length c1, .int .i64 m.n]] w (GotPut W w (l ++ encL1 m)) := by
  obtain rfl := own_len ho
  obtain ⟨wz, hwz⟩ : ∃ wz, w.alloc (.cells #[.int .i64 m.s, .int .i64 m.q, .int .i64 m.e, .slice A1 m.v.length c1, .int .i64 m.n] 54) = wz := ⟨_, rfl⟩
  have hbz : Below w.heap.size w wz := by rw [← hwz]; exact (Below.refl _ _).alloc (Nat.le_refl _) _
  have hkz : Blk wz w.heap.size 54 #[.int .i64 m.s, .int .i64 m.q, .int .i64 m.e, .slice A1 m.v.length c1, .int .i64 m.n] := by rw [← hwz]; exact Blk.new _ _ _
  obtain ⟨g, hg⟩ : ∃ g, w.heap.size = g := ⟨_, rfl⟩
  rw [hg] at hkz
  have HZ := Lib.hid hbz
  have HO := Lib.hid (own_below ho hbz)
  have HB := Lib.hid (hB.trans (hbz.mono hB.size))
  have HR1 := Lib.hid h1
  have HV := Lib.hid hv
  have HW := Lib.hid hwz
  have HG := Lib.hid hg
  have HK := Lib.hid hkz
  obtain ⟨s, es⟩ : ∃ x, m.s = x := ⟨_, rfl⟩
  obtain ⟨q, eq⟩ : ∃ x, m.q = x := ⟨_, rfl⟩
  obtain ⟨e, ee⟩ : ∃ x, m.e = x := ⟨_, rfl⟩
  obtain ⟨v, ev⟩ : ∃ x, m.v = x := ⟨_, rfl⟩
  obtain ⟨N, eN⟩ : ∃ x, m.n = x := ⟨_, rfl⟩
  have hEL : encL1 m = Pk.enc (Pk.held s) ++ (Pk.enc (Pk.held q) ++ (Pk.enc (Pk.held e) ++ (Pk.enc (Pk.held (N + 1)) ++ Pk.encB v))) := by unfold encL1; rw [es, eq, ee, ev, eN]
  rw [hEL]
  rw [es, eq, ee, ev, eN] at HK HW
  rw [ev] at HR1 HV
  rw [eN] at hm
  rw [es, eq, ee, ev, eN]
  clear es eq ee ev eN hEL
  have k1 := (Pk.enc_length (Pk.held s)).2
  have k2 := (Pk.enc_length (Pk.held q)).2
  have k3 := (Pk.enc_length (Pk.held e)).2
  have k4 := (Pk.enc_length (Pk.held (N + 1))).2
  obtain ⟨l1, e1⟩ : ∃ x, l ++ Pk.enc (Pk.held s) = x := ⟨_, rfl⟩
  obtain ⟨l2, e2⟩ : ∃ x, l1 ++ Pk.enc (Pk.held q) = x := ⟨_, rfl⟩
  obtain ⟨l3, e3⟩ : ∃ x, l2 ++ Pk.enc (Pk.held e) = x := ⟨_, rfl⟩
  obtain ⟨l4, e4⟩ : ∃ x, l3 ++ Pk.enc (Pk.held (N + 1)) = x := ⟨_, rfl⟩
  obtain ⟨l5, e5⟩ : ∃ x, l4 ++ Pk.encB v = x := ⟨_, rfl⟩
  have hL : l.length ≤ 1000000 ∧ l1.length ≤ 1000000 ∧ l2.length ≤ 1000000 ∧ l3.length ≤ 1000000 ∧ l4.length ≤ 1000000 := by
    rw [← e4, ← e3, ← e2, ← e1]; simp only [List.length_append]; omega
  have hEND : l ++ (Pk.enc (Pk.held s) ++ (Pk.enc (Pk.held q) ++ (Pk.enc (Pk.held e) ++ (Pk.enc (Pk.held (N + 1)) ++ Pk.encB v)))) = l5 := by
    rw [← e5, ← e4, ← e3, ← e2, ← e1]; simp only [List.append_assoc]
  rw [hEND]
  have HL := Lib.hid hL
  have HE1 := Lib.hid e1
  have HE2 := Lib.hid e2
  have HE3 := Lib.hid e3
  have HE4 := Lib.hid e4
  have HE5 := Lib.hid e5
  have HMIN : Hid (N ≤ 1073741824) := Lib.hid hm.2
  have HWR : Hid (IntKind.i64.wrap (N + 1) = N + 1) := Lib.hid (IntWalk.i64_in _ (by omega))
  clear hm
  clear ho hbz hB h1 hv hwz hg hkz e1 e2 e3 e4 e5 hl hL hEND k1 k2 k3 k4
  go_enter Tryz.func60, Tryz.ntmps60
  go_upto_region 1 with fail
  rw [HG.out, HW.out]
  refine wp_region_held_drew (S := fun w' => Blk w' g 54 #[.int .i64 s, .int .i64 q, .int .i64 e, .slice A1 v.length c1, .int .i64 N]) (by kernel_rfl) HK.out (fun _ => ?_)
  have HD : Hid (Below wz.heap.size wz wz.drew) := Lib.hid (Below.refl _ _).drew
  generalize wz.drew = wd at HD ⊢
  have HK := Lib.hid (HK.out.below HD.out)
  refine wpAnyH_take (i := 0) (v := .slice A l.length c) rfl (by kernel_rfl) (by kernel_rfl) (by kernel_rfl) (fun _ _ _ h => h) (Or.inl ⟨by kernel_rfl, fun w _ => by go_simp⟩) HK.out ?_
  refine wpAnyH_take (i := 1) (v := .pointer (some ⟨g, 0, none⟩)) rfl (by kernel_rfl) (by kernel_rfl) (by kernel_rfl) (fun _ _ _ h => h) (Or.inl ⟨by kernel_rfl, fun w _ => by go_simp⟩) HK.out ?_
  refine wpAnyH_take (i := 4) (v := .pointer (some ⟨g, 1, none⟩)) rfl (by kernel_rfl) (by kernel_rfl) (by kernel_rfl) (fun _ _ _ h => h) (Or.inl ⟨by kernel_rfl, fun w _ => by go_simp⟩) HK.out ?_
  refine wpAnyH_take (i := 2) (v := .int .i64 s) rfl (by kernel_rfl) (by kernel_rfl) (by kernel_rfl) (fun _ _ _ h => h) (Or.inl ⟨by kernel_rfl, fun w h => by have q := h.cell 0; go_simp⟩) HK.out ?_
  refine wpAnyH_take (i := 5) (v := .int .i64 q) rfl (by kernel_rfl) (by kernel_rfl) (by kernel_rfl) (fun _ _ _ h => h) (Or.inl ⟨by kernel_rfl, fun w h => by have q := h.cell 1; go_simp⟩) HK.out ?_
  refine wpAnyH_ready (rs := [3]) (by kernel_rfl) (by simp) ?_
  refine AllReadyH.cons rfl (fun K hK => ?_) AllReadyH.nil
  go_simp
  refine (putNum_any (W := W) s HL.out.1 (own_below HO.out HD.out) (HB.out.trans (HD.out.mono HB.out.size))).mono ?_
  rintro en w1 ⟨A3, c3, rfl, ho3, hB3, hb3⟩
  rw [HE1.out] at ho3 ⊢
  have HK3 := Lib.hid (hb3.blk (by decide) HK.out)
  go_simp
  refine hK.out _ _ HK3.out (fun _ => ?_)
  clear hK K
  refine wpAnyH_ready (rs := [6]) (by kernel_rfl) (by simp) ?_
  refine AllReadyH.cons rfl (fun K hK => ?_) AllReadyH.nil
  go_simp
  refine (putNum_any (W := W) q HL.out.2.1 ho3 hB3).mono ?_
  rintro en w2 ⟨A4, c4, rfl, ho4, hB4, hb4⟩
  rw [HE2.out] at ho4 ⊢
  have HK4 := Lib.hid (hb4.blk (by decide) HK3.out)
  go_simp
  refine hK.out _ _ HK4.out (fun _ => ?_)
  clear hK K
  refine wpAnyH_take (i := 7) (v := .slice A4 l2.length c4) rfl (by kernel_rfl) (by kernel_rfl) (by kernel_rfl) (fun _ _ _ h => h) (Or.inl ⟨by kernel_rfl, fun w _ => by go_simp⟩) HK4.out ?_
  refine wpAnyH_done (by kernel_rfl) ?_ _
  obtain ⟨x0, x1, x2, x3, x4⟩ := five HK4.out
  go_upto_region 3 with (first
    | (go_at_call 56; refine (putNum_any (W := W) e HL.out.2.2.1 ho4 hB4).mono ?_; rintro en w5 ⟨A5, c5, rfl, ho5, hB5, hb5⟩; rw [HE3.out] at ho5 ⊢; have HK5 := Lib.hid (hb5.blk (by decide) HK4.out); obtain ⟨y0, y1, y2, y3, y4⟩ := five HK5.out)
    | fail)
  have hmin : ∀ (ts : Array TypeId) (t : TypeId) (w : World), (Builtin.min_ ts t #[.int .i64 N, .int .i64 9223372036854775806]).run Tryz.prog w = .ok (.int .i64 N) w := fun ts t w => by
    rw [run_min_int2, if_neg (by have := HMIN.out; omega)]
  have hwr := HWR.out
  clear HMIN HWR x0 x1 x2 x3 x4
  go_wp2_with (first
    | (go_at_call 56; refine (putNum_any (W := W) (N + 1) HL.out.2.2.2.1 ho5 hB5).mono ?_; rintro en w6 ⟨A6, c6, rfl, ho6, hB6, hb6⟩; rw [HE4.out] at ho6 ⊢; have HK6 := Lib.hid (hb6.blk (by decide) HK5.out); obtain ⟨z0, z1, z2, z3, z4⟩ := five HK6.out)
    | (go_at_call 53; refine (putBytes_any (W := W) (c' := c1) HL.out.2.2.2.2 HV.out ho6 HR1.out hB6).mono ?_; rintro en w7 ⟨A7, c7, rfl, ho7, hB7, hb7⟩; rw [HE5.out] at ho7 ⊢)
    | fail)
  go_ret
  exact ⟨A7, c7, rfl, ho7, hB7, ((((((OnlyB.of_below HZ.out).trans (OnlyB.of_below HD.out)).trans hb3).trans hb4).trans hb5).trans hb6).trans hb7⟩
end Go.Proofs.YthfnnieklkaefaaGreat

namespace Go.Proofs.YthfnnieklkaefaaGreat
open Go.RowKit
set_option linter.unusedVariables false
theorem take_snoc {α : Type} {l : List α} {k : Nat} {x : α} (h : l[k]? = some x) : l.take (k + 1) = l.take k ++ [x] := by rw [List.take_add_one, h]; rfl
theorem cell_of {W w : World} (hB : Below W.heap.size W w) {p : Addr} {v : Value} (h : W.cell? p = some v) : w.cell? p = some v := (hB.cell (World.block_lt_of_cell? _ _ h)).trans h
set_option maxHeartbeats 2000000 in
set_option maxRecDepth 100000 in
theorem putEachQ_any {W w : World} {A A' : Option Addr} {n c n' c' : Nat} {l : List Nat} {xs : List (List Nat)} (hl : l.length ≤ 10000) (hn : xs.length ≤ 100) (hx : ∀ x ∈ xs, x.length ≤ 16) (ho : OwnB W w A n c l) (hr : RdQ W W.heap.size A' n' xs) (hB : Below W.heap.size W w) :
    Calls Tryz.prog 54 #[.slice A n c, .slice A' n' c', .func (.func 53) #[] #[]] w (GotPut W w (l ++ (encN xs.length ++ encQ xs))) := by
  obtain rfl := own_len ho
  have hlen : xs.length = n' := hr.length
  subst hlen
  have HR := Lib.hid hr
  have HX := Lib.hid hx
  have HLEN : Hid (∀ k, k ≤ xs.length → (l ++ (encN xs.length ++ encQ (xs.take k))).length ≤ 20000) := Lib.hid (fun k hk => by
    have h1 := encN_length xs.length
    have h2 := encQ_length (qs := xs.take k) (fun y hy => hx y (List.mem_of_mem_take hy))
    have h3 : (xs.take k).length ≤ k := List.length_take_le _ _
    simp only [List.length_append]; omega)
  have HC := Lib.hid (putNum_any (W := W) (xs.length : Int) (by omega) ho hB)
  obtain ⟨l0, e0⟩ : ∃ x, l ++ Pk.enc (Pk.held (xs.length : Int)) = x := ⟨_, rfl⟩
  rw [e0] at HC
  have HE0 : Hid (∀ y, l ++ (encN xs.length ++ y) = l0 ++ y) := Lib.hid (fun y => by rw [← e0, ← List.append_assoc]; rfl)
  rw [HE0.out] 
  clear ho hB hr e0 hx 
  go_enter Tryz.func54, Tryz.ntmps54
  go_wp2_with (first
    | (go_at_call 56; refine HC.out.mono ?_; rintro e w1 ⟨A1, c1, rfl, ho1, hB1, hb1⟩)
    | fail)
  have HO1 := Lib.hid ho1
  have HB1 := Lib.hid hB1
  have HU1 := Lib.hid hb1
  clear ho1 hB1 hb1 HC
  go_loopw [0, 8, 15] (fun s0 s8 s15 wr => ∃ (k : Nat) (A2 : Option Addr) (c2 : Nat) (L : List Nat), k ≤ xs.length ∧ s15 = .int .i64 (k : Int) ∧ s0 = .slice A2 L.length c2 ∧ Hid (L = l0 ++ encQ (xs.take k)) ∧ Hid (OwnB W wr A2 L.length c2 L) ∧ Hid (Below W.heap.size W wr) ∧ Hid (OnlyB w wr)) (fun _ _ s15 _ => xs.length - (intOf s15).toNat)
  case atStart => exact ⟨0, A1, c1, l0, Nat.zero_le _, rfl, rfl, Lib.hid (by simp [encQ]), HO1, HB1, HU1⟩
  case round =>
    obtain ⟨k, A2, c2, L, hk, rfl, rfl, HL, HO, HB, HU⟩ := hrel
    by_cases hlt : k < xs.length
    · obtain ⟨b, o, x, A3, c3, rfl, hxk, hc0, hrd⟩ := HR.out.at hlt
      have y0 := cell_of HB.out hc0
      have hLL : L.length ≤ 1000000 := by have := HLEN.out k hk; rw [HE0.out, ← HL.out] at this; omega
      have hLS : L.length ≤ 20000 := by have := HLEN.out k hk; rwa [HE0.out, ← HL.out] at this
      have HP := Lib.hid hxk
      have HC := Lib.hid (putBytes_any (W := W) (c' := c3) hLL (Nat.le_trans (HX.out x (List.mem_of_getElem? hxk)) (by omega)) HO.out hrd HB.out)
      obtain ⟨L', eL⟩ : ∃ y, L ++ Pk.encB x = y := ⟨_, rfl⟩
      rw [eL] at HC
      have HEL := Lib.hid eL
      clear eL hxk 
      go_wp2_with (first
        | (go_at_call 53; refine HC.out.mono ?_; rintro e w4 ⟨A5, c5, rfl, ho5, hB5, hb5⟩)
        | fail)
      go_roundw
      case rel =>
        refine ⟨k + 1, A5, c5, L', by omega, by go_num, rfl, Lib.hid ?_, Lib.hid ho5, Lib.hid hB5, Lib.hid (HU.out.trans hb5)⟩
        rw [← HEL.out, HL.out, take_snoc HP.out, encQ_snoc]
        simp only [List.append_assoc]
      case measure => simp only [intOf]; omega
    · obtain rfl : k = xs.length := by omega
      go_wp2_with fail
      go_ret
      exact GotPut.is (l := L) ⟨A2, c2, rfl, HO.out, HB.out, HU.out⟩ (by rw [HL.out, List.take_of_length_le (Nat.le_refl _)])
set_option maxHeartbeats 2000000 in
set_option maxRecDepth 100000 in
theorem putEachI_any {W w : World} {A A' : Option Addr} {n c n' c' : Nat} {l : List Nat} {xs : List Int} (hl : l.length ≤ 10000) (hn : xs.length ≤ 100)  (ho : OwnB W w A n c l) (hr : Rd W W.heap.size A' n' (iv xs)) (hB : Below W.heap.size W w) :
    Calls Tryz.prog 55 #[.slice A n c, .slice A' n' c', .func (.func 56) #[] #[]] w (GotPut W w (l ++ (encN xs.length ++ Pk.encs xs))) := by
  obtain rfl := own_len ho
  have hlen : xs.length = n' := by have := hr.1; rwa [iv_length] at this
  subst hlen
  have HR := Lib.hid hr
  have HLEN : Hid (∀ k, k ≤ xs.length → (l ++ (encN xs.length ++ Pk.encs (xs.take k))).length ≤ 20000) := Lib.hid (fun k hk => by
    have h1 := encN_length xs.length
    have h2 := Pk.encs_length (xs.take k)
    have h3 : (xs.take k).length ≤ k := List.length_take_le _ _
    simp only [List.length_append]; omega)
  have HC := Lib.hid (putNum_any (W := W) (xs.length : Int) (by omega) ho hB)
  obtain ⟨l0, e0⟩ : ∃ x, l ++ Pk.enc (Pk.held (xs.length : Int)) = x := ⟨_, rfl⟩
  rw [e0] at HC
  have HE0 : Hid (∀ y, l ++ (encN xs.length ++ y) = l0 ++ y) := Lib.hid (fun y => by rw [← e0, ← List.append_assoc]; rfl)
  rw [HE0.out] 
  clear ho hB hr e0 
  go_enter Tryz.func55, Tryz.ntmps55
  go_wp2_with (first
    | (go_at_call 56; refine HC.out.mono ?_; rintro e w1 ⟨A1, c1, rfl, ho1, hB1, hb1⟩)
    | fail)
  have HO1 := Lib.hid ho1
  have HB1 := Lib.hid hB1
  have HU1 := Lib.hid hb1
  clear ho1 hB1 hb1 HC
  go_loopw [0, 8, 15] (fun s0 s8 s15 wr => ∃ (k : Nat) (A2 : Option Addr) (c2 : Nat) (L : List Nat), k ≤ xs.length ∧ s15 = .int .i64 (k : Int) ∧ s0 = .slice A2 L.length c2 ∧ Hid (L = l0 ++ Pk.encs (xs.take k)) ∧ Hid (OwnB W wr A2 L.length c2 L) ∧ Hid (Below W.heap.size W wr) ∧ Hid (OnlyB w wr)) (fun _ _ s15 _ => xs.length - (intOf s15).toNat)
  case atStart => exact ⟨0, A1, c1, l0, Nat.zero_le _, rfl, rfl, Lib.hid (by simp [Pk.encs]), HO1, HB1, HU1⟩
  case round =>
    obtain ⟨k, A2, c2, L, hk, rfl, rfl, HL, HO, HB, HU⟩ := hrel
    by_cases hlt : k < xs.length
    · obtain ⟨x, hxk⟩ : ∃ x, xs[k]? = some x := ⟨_, List.getElem?_eq_getElem hlt⟩
      obtain ⟨b, o, rfl, _⟩ := HR.out.int_at hlt
      have hc0 := HR.out.int_cell hlt hxk
      have y0 := cell_of HB.out hc0
      have hLL : L.length ≤ 1000000 := by have := HLEN.out k hk; rw [HE0.out, ← HL.out] at this; omega
      have hLS : L.length ≤ 20000 := by have := HLEN.out k hk; rwa [HE0.out, ← HL.out] at this
      have HP := Lib.hid hxk
      have HC := Lib.hid (putNum_any (W := W) x hLL HO.out HB.out)
      obtain ⟨L', eL⟩ : ∃ y, L ++ Pk.enc (Pk.held x) = y := ⟨_, rfl⟩
      rw [eL] at HC
      have HEL := Lib.hid eL
      clear eL hxk 
      go_wp2_with (first
        | (go_at_call 56; refine HC.out.mono ?_; rintro e w4 ⟨A5, c5, rfl, ho5, hB5, hb5⟩)
        | fail)
      go_roundw
      case rel =>
        refine ⟨k + 1, A5, c5, L', by omega, by go_num, rfl, Lib.hid ?_, Lib.hid ho5, Lib.hid hB5, Lib.hid (HU.out.trans hb5)⟩
        rw [← HEL.out, HL.out, take_snoc HP.out, Pk.encs_snoc]
        simp only [List.append_assoc]
      case measure => simp only [intOf]; omega
    · obtain rfl : k = xs.length := by omega
      go_wp2_with fail
      go_ret
      exact GotPut.is (l := L) ⟨A2, c2, rfl, HO.out, HB.out, HU.out⟩ (by rw [HL.out, List.take_of_length_le (Nat.le_refl _)])
set_option maxHeartbeats 2000000 in
set_option maxRecDepth 100000 in
theorem putEachP_any {W w : World} {A A' : Option Addr} {n c n' c' : Nat} {l : List Nat} {xs : List Pr} (hl : l.length ≤ 10000) (hn : xs.length ≤ 100) (hx : ∀ p ∈ xs, p.1.length ≤ 8 ∧ p.2.length ≤ 16) (ho : OwnB W w A n c l) (hr : RdP W W.heap.size A' n' xs) (hB : Below W.heap.size W w) :
    Calls Tryz.prog 57 #[.slice A n c, .slice A' n' c', .func (.func 58) #[] #[]] w (GotPut W w (l ++ (encN xs.length ++ encP xs))) := by
  obtain rfl := own_len ho
  have hlen : xs.length = n' := hr.length
  subst hlen
  have HR := Lib.hid hr
  have HX := Lib.hid hx
  have HLEN : Hid (∀ k, k ≤ xs.length → (l ++ (encN xs.length ++ encP (xs.take k))).length ≤ 20000) := Lib.hid (fun k hk => by
    have h1 := encN_length xs.length
    have h2 := encP_length (ps := xs.take k) (fun y hy => hx y (List.mem_of_mem_take hy))
    have h3 : (xs.take k).length ≤ k := List.length_take_le _ _
    simp only [List.length_append]; omega)
  have HC := Lib.hid (putNum_any (W := W) (xs.length : Int) (by omega) ho hB)
  obtain ⟨l0, e0⟩ : ∃ x, l ++ Pk.enc (Pk.held (xs.length : Int)) = x := ⟨_, rfl⟩
  rw [e0] at HC
  have HE0 : Hid (∀ y, l ++ (encN xs.length ++ y) = l0 ++ y) := Lib.hid (fun y => by rw [← e0, ← List.append_assoc]; rfl)
  rw [HE0.out] 
  clear ho hB hr e0 hx 
  go_enter Tryz.func57, Tryz.ntmps57
  go_wp2_with (first
    | (go_at_call 56; refine HC.out.mono ?_; rintro e w1 ⟨A1, c1, rfl, ho1, hB1, hb1⟩)
    | fail)
  have HO1 := Lib.hid ho1
  have HB1 := Lib.hid hB1
  have HU1 := Lib.hid hb1
  clear ho1 hB1 hb1 HC
  go_loopw [0, 8, 15] (fun s0 s8 s15 wr => ∃ (k : Nat) (A2 : Option Addr) (c2 : Nat) (L : List Nat), k ≤ xs.length ∧ s15 = .int .i64 (k : Int) ∧ s0 = .slice A2 L.length c2 ∧ Hid (L = l0 ++ encP (xs.take k)) ∧ Hid (OwnB W wr A2 L.length c2 L) ∧ Hid (Below W.heap.size W wr) ∧ Hid (OnlyB w wr)) (fun _ _ s15 _ => xs.length - (intOf s15).toNat)
  case atStart => exact ⟨0, A1, c1, l0, Nat.zero_le _, rfl, rfl, Lib.hid (by simp [encP]), HO1, HB1, HU1⟩
  case round =>
    obtain ⟨k, A2, c2, L, hk, rfl, rfl, HL, HO, HB, HU⟩ := hrel
    by_cases hlt : k < xs.length
    · obtain ⟨b, o, x, A3, c3, A4, c4, rfl, hxk, hc0, hc1, hrd, hrd2⟩ := HR.out.at hlt
      have y0 := cell_of HB.out hc0
      have y1 := cell_of HB.out hc1
      have hLL : L.length ≤ 1000000 := by have := HLEN.out k hk; rw [HE0.out, ← HL.out] at this; omega
      have hLS : L.length ≤ 20000 := by have := HLEN.out k hk; rwa [HE0.out, ← HL.out] at this
      have b0 : Below wr.heap.size wr (wr.alloc (.cells #[.slice A3 x.1.length c3, .slice A4 x.2.length c4] 86)) := (Below.refl _ _).alloc (Nat.le_refl _) _
      have HB0 := Lib.hid b0
      have HP := Lib.hid hxk
      have HC := Lib.hid (putPair_any (W := W) (c1 := c3) (c2 := c4) (p := x) (by omega) (Nat.le_trans (HX.out x (List.mem_of_getElem? hxk)).1 (by omega)) (Nat.le_trans (HX.out x (List.mem_of_getElem? hxk)).2 (by omega)) (own_below HO.out b0) hrd hrd2 (HB.out.trans (b0.mono HB.out.size)))
      obtain ⟨L', eL⟩ : ∃ y, L ++ Pk.encB x.1 ++ Pk.encB x.2 = y := ⟨_, rfl⟩
      rw [eL] at HC
      have HEL := Lib.hid eL
      clear eL hxk b0
      go_wp2_with (first
        | (go_at_call 58; refine HC.out.mono ?_; rintro e w4 ⟨A5, c5, rfl, ho5, hB5, hb5⟩)
        | fail)
      go_roundw
      case rel =>
        refine ⟨k + 1, A5, c5, L', by omega, by go_num, rfl, Lib.hid ?_, Lib.hid ho5, Lib.hid hB5, Lib.hid (HU.out.trans ((OnlyB.of_below HB0.out).trans hb5))⟩
        rw [← HEL.out, HL.out, take_snoc HP.out, encP_snoc]
        simp only [List.append_assoc]
      case measure => simp only [intOf]; omega
    · obtain rfl : k = xs.length := by omega
      go_wp2_with fail
      go_ret
      exact GotPut.is (l := L) ⟨A2, c2, rfl, HO.out, HB.out, HU.out⟩ (by rw [HL.out, List.take_of_length_le (Nat.le_refl _)])
theorem encT_snoc1 (ls : List Ls) (l : Ls) : encT (ls ++ [l]) = encT ls ++ encL1 l := by simp [encT]
set_option maxHeartbeats 2000000 in
set_option maxRecDepth 100000 in
theorem putEachT_any {W w : World} {A A' : Option Addr} {n c n' c' : Nat} {l : List Nat} {xs : List Ls} (hl : l.length ≤ 10000) (hn : xs.length ≤ 100) (hx : ∀ m ∈ xs, m.v.length ≤ 16) (hm : ∀ m ∈ xs, -1 ≤ m.n ∧ m.n ≤ 1073741824) (ho : OwnB W w A n c l) (hr : RdL W W.heap.size A' n' xs) (hB : Below W.heap.size W w) :
    Calls Tryz.prog 59 #[.slice A n c, .slice A' n' c', .func (.func 60) #[] #[]] w (GotPut W w (l ++ (encN xs.length ++ encT xs))) := by
  obtain rfl := own_len ho
  have hlen : xs.length = n' := hr.length
  subst hlen
  have HR := Lib.hid hr
  have HX := Lib.hid hx
  have HM := Lib.hid hm
  have HLEN : Hid (∀ k, k ≤ xs.length → (l ++ (encN xs.length ++ encT (xs.take k))).length ≤ 20000) := Lib.hid (fun k hk => by
    have h1 := encN_length xs.length
    have h2 := encT_length (ls := xs.take k) (fun y hy => hx y (List.mem_of_mem_take hy))
    have h3 : (xs.take k).length ≤ k := List.length_take_le _ _
    simp only [List.length_append]; omega)
  have HC := Lib.hid (putNum_any (W := W) (xs.length : Int) (by omega) ho hB)
  obtain ⟨l0, e0⟩ : ∃ x, l ++ Pk.enc (Pk.held (xs.length : Int)) = x := ⟨_, rfl⟩
  rw [e0] at HC
  have HE0 : Hid (∀ y, l ++ (encN xs.length ++ y) = l0 ++ y) := Lib.hid (fun y => by rw [← e0, ← List.append_assoc]; rfl)
  rw [HE0.out] 
  clear ho hB hr e0 hx hm
  go_enter Tryz.func59, Tryz.ntmps59
  go_wp2_with (first
    | (go_at_call 56; refine HC.out.mono ?_; rintro e w1 ⟨A1, c1, rfl, ho1, hB1, hb1⟩)
    | fail)
  have HO1 := Lib.hid ho1
  have HB1 := Lib.hid hB1
  have HU1 := Lib.hid hb1
  clear ho1 hB1 hb1 HC
  go_loopw [0, 8, 15] (fun s0 s8 s15 wr => ∃ (k : Nat) (A2 : Option Addr) (c2 : Nat) (L : List Nat), k ≤ xs.length ∧ s15 = .int .i64 (k : Int) ∧ s0 = .slice A2 L.length c2 ∧ Hid (L = l0 ++ encT (xs.take k)) ∧ Hid (OwnB W wr A2 L.length c2 L) ∧ Hid (Below W.heap.size W wr) ∧ Hid (OnlyB w wr)) (fun _ _ s15 _ => xs.length - (intOf s15).toNat)
  case atStart => exact ⟨0, A1, c1, l0, Nat.zero_le _, rfl, rfl, Lib.hid (by simp [encT]), HO1, HB1, HU1⟩
  case round =>
    obtain ⟨k, A2, c2, L, hk, rfl, rfl, HL, HO, HB, HU⟩ := hrel
    by_cases hlt : k < xs.length
    · obtain ⟨b, o, x, A3, c3, rfl, hxk, hc0, hc1, hc2, hc3, hc4, hrd⟩ := HR.out.at hlt
      have y0 := cell_of HB.out hc0
      have y1 := cell_of HB.out hc1
      have y2 := cell_of HB.out hc2
      have y3 := cell_of HB.out hc3
      have y4 := cell_of HB.out hc4
      have hLL : L.length ≤ 1000000 := by have := HLEN.out k hk; rw [HE0.out, ← HL.out] at this; omega
      have hLS : L.length ≤ 20000 := by have := HLEN.out k hk; rwa [HE0.out, ← HL.out] at this
      have b0 : Below wr.heap.size wr (wr.alloc (.cells #[.int .i64 x.s, .int .i64 x.q, .int .i64 x.e, .slice A3 x.v.length c3, .int .i64 x.n] 54)) := (Below.refl _ _).alloc (Nat.le_refl _) _
      have HB0 := Lib.hid b0
      have HP := Lib.hid hxk
      have HC := Lib.hid (putLast_any (W := W) (c1 := c3) (m := x) (by omega) (Nat.le_trans (HX.out x (List.mem_of_getElem? hxk)) (by omega)) (HM.out x (List.mem_of_getElem? hxk)) (own_below HO.out b0) hrd (HB.out.trans (b0.mono HB.out.size)))
      obtain ⟨L', eL⟩ : ∃ y, L ++ encL1 x = y := ⟨_, rfl⟩
      rw [eL] at HC
      have HEL := Lib.hid eL
      clear eL hxk b0
      go_wp2_with (first
        | (go_at_call 60; refine HC.out.mono ?_; rintro e w4 ⟨A5, c5, rfl, ho5, hB5, hb5⟩)
        | fail)
      go_roundw
      case rel =>
        refine ⟨k + 1, A5, c5, L', by omega, by go_num, rfl, Lib.hid ?_, Lib.hid ho5, Lib.hid hB5, Lib.hid (HU.out.trans ((OnlyB.of_below HB0.out).trans hb5))⟩
        rw [← HEL.out, HL.out, take_snoc HP.out, encT_snoc1]
        simp only [List.append_assoc]
      case measure => simp only [intOf]; omega
    · obtain rfl : k = xs.length := by omega
      go_wp2_with fail
      go_ret
      exact GotPut.is (l := L) ⟨A2, c2, rfl, HO.out, HB.out, HU.out⟩ (by rw [HL.out, List.take_of_length_le (Nat.le_refl _)])
end Go.Proofs.YthfnnieklkaefaaGreat

namespace Go.Proofs.YthfnnieklkaefaaGreat
open Go.RowKit
set_option linter.unusedVariables false
set_option maxHeartbeats 4000000 in
set_option maxRecDepth 100000 in
theorem encode_raw {w : World} {a : MA} {m : Mc} {B : Nat} (hM : m.Ok) (h : RdM w B a m) : Calls Tryz.prog 14 #[machV a m] w (GotIn w w m.enc) := by
  obtain ⟨wz, hwz⟩ : ∃ wz, w.alloc (.cells (machC a m) 37) = wz := ⟨_, rfl⟩
  have hbz : Below w.heap.size w wz := by rw [← hwz]; exact (Below.refl _ _).alloc (Nat.le_refl _) _
  have hkz : Blk wz w.heap.size 37 (machC a m) := by rw [← hwz]; exact Blk.new _ _ _
  have HR := Lib.hid ((h.fit.below hbz).fit)
  have HZ := Lib.hid hbz
  have HM := Lib.hid hM
  obtain ⟨g, hg⟩ : ∃ g, w.heap.size = g := ⟨_, rfl⟩
  rw [hg] at hkz
  have HF : Hid (∀ wx, Below wz.heap.size wz wx → Blk wx g 37 (machC a m)) := Lib.hid (fun wx hb => hkz.below hb)
  have HW := Lib.hid hwz
  have HG := Lib.hid hg
  have k1 := encB_length m.o.reg
  have k2 := encQ_length hM.o.qv
  have k3 := Pk.encs_length m.o.lk
  have k4 := encP_length hM.o.mp.len
  have k5 := encN_length m.o.q.length
  have k6 := encN_length m.o.lk.length
  have k7 := encN_length m.o.mp.length
  have k8 := hM.o.reg
  have k9 := hM.o.ql
  have k10 := hM.o.lkl
  have k11 := hM.o.mp.few
  obtain ⟨l1, e1⟩ : ∃ x, Pk.encB m.o.reg = x := ⟨_, rfl⟩
  obtain ⟨l2, e2⟩ : ∃ x, l1 ++ (encN m.o.q.length ++ encQ m.o.q) = x := ⟨_, rfl⟩
  obtain ⟨l3, e3⟩ : ∃ x, l2 ++ (encN m.o.lk.length ++ Pk.encs m.o.lk) = x := ⟨_, rfl⟩
  obtain ⟨l4, e4⟩ : ∃ x, l3 ++ (encN m.o.mp.length ++ encP m.o.mp) = x := ⟨_, rfl⟩
  obtain ⟨l5, e5⟩ : ∃ x, l4 ++ (encN m.t.length ++ encT m.t) = x := ⟨_, rfl⟩
  have hl1 : l1.length ≤ 100 := by rw [← e1]; omega
  have hl2 : l2.length ≤ 1000 := by rw [← e2]; simp only [List.length_append]; omega
  have hl3 : l3.length ≤ 2000 := by rw [← e3]; simp only [List.length_append]; omega
  have hl4 : l4.length ≤ 3000 := by rw [← e4]; simp only [List.length_append]; omega
  have hEND : m.enc = l5 := by
    unfold Mc.enc; rw [← e5, ← e4, ← e3, ← e2, ← e1]; simp only [List.append_assoc]
  rw [hEND]
  have C1 : Hid (Calls Tryz.prog 53 #[.slice none 0 0, .slice a.o.A0 m.o.reg.length a.o.c0] wz (GotPut wz wz l1)) := Lib.hid ((putBytes_any (W := wz) (w := wz) (l := []) (x := m.o.reg) (by simp) (by omega) (own_nil _ _) HR.out.o.r0 (Below.refl _ _)).mono fun e w' h => h.is (by rw [← e1]; rfl))
  have C2 : Hid (∀ {wx : World} {A : Option Addr} {c : Nat}, OwnB wz wx A l1.length c l1 → Below wz.heap.size wz wx → Calls Tryz.prog 54 #[.slice A l1.length c, .slice a.o.A1 m.o.q.length a.o.c1, .func (.func 53) #[] #[]] wx (GotPut wz wx l2)) := Lib.hid (fun ho hB => (putEachQ_any (W := wz) (c' := a.o.c1) (by omega) (by omega) hM.o.qv ho HR.out.o.r1 hB).mono fun e w' h => h.is e2)
  have C3 : Hid (∀ {wx : World} {A : Option Addr} {c : Nat}, OwnB wz wx A l2.length c l2 → Below wz.heap.size wz wx → Calls Tryz.prog 55 #[.slice A l2.length c, .slice a.o.A2 m.o.lk.length a.o.c2, .func (.func 56) #[] #[]] wx (GotPut wz wx l3)) := Lib.hid (fun ho hB => (putEachI_any (W := wz) (c' := a.o.c2) (by omega) (by omega) ho HR.out.o.r2 hB).mono fun e w' h => h.is e3)
  have C4 : Hid (∀ {wx : World} {A : Option Addr} {c : Nat}, OwnB wz wx A l3.length c l3 → Below wz.heap.size wz wx → Calls Tryz.prog 57 #[.slice A l3.length c, .slice a.o.A3 m.o.mp.length a.o.c3, .func (.func 58) #[] #[]] wx (GotPut wz wx l4)) := Lib.hid (fun ho hB => (putEachP_any (W := wz) (c' := a.o.c3) (by omega) (by omega) hM.o.mp.len ho HR.out.o.r3 hB).mono fun e w' h => h.is e4)
  have C5 : Hid (∀ {wx : World} {A : Option Addr} {c : Nat}, OwnB wz wx A l4.length c l4 → Below wz.heap.size wz wx → Calls Tryz.prog 59 #[.slice A l4.length c, .slice a.At m.t.length a.ct, .func (.func 60) #[] #[]] wx (GotPut wz wx l5)) := Lib.hid (fun ho hB => (putEachT_any (W := wz) (c' := a.ct) (by omega) (by have := hM.t8; omega) (fun m' hm' => (hM.t.each m' hm').2.1) (fun m' hm' => (hM.te m' hm').2.2) ho HR.out.t hB).mono fun e w' h => h.is e5)
  clear k1 k2 k3 k4 k5 k6 k7 k8 k9 k10 k11 e1 e2 e3 e4 e5 hl1 hl2 hl3 hl4 hEND h hM hbz hkz hwz hg
  unfold machV machC
  unfold machC at HW HF
  go_enter Tryz.func14, Tryz.ntmps14
  go_upto_region 1 with fail
  rw [HG.out, HW.out]
  obtain ⟨x0, x1, x2, x3, x4⟩ := five (HF.out wz (Below.refl _ _))
  go_wp2_with (first
    | (go_at_call 53; refine C1.out.mono ?_; rintro e w1 ⟨A1, c1, rfl, ho1, hB1, hb1⟩; obtain ⟨x0, x1, x2, x3, x4⟩ := five (HF.out w1 hB1))
    | (go_at_call 54; refine (C2.out ho1 hB1).mono ?_; rintro e w2 ⟨A2, c2, rfl, ho2, hB2, hb2⟩; obtain ⟨x0, x1, x2, x3, x4⟩ := five (HF.out w2 hB2))
    | (go_at_call 55; refine (C3.out ho2 hB2).mono ?_; rintro e w3 ⟨A3, c3, rfl, ho3, hB3, hb3⟩; obtain ⟨x0, x1, x2, x3, x4⟩ := five (HF.out w3 hB3))
    | (go_at_call 57; refine (C4.out ho3 hB3).mono ?_; rintro e w4 ⟨A4, c4, rfl, ho4, hB4, hb4⟩; obtain ⟨x0, x1, x2, x3, x4⟩ := five (HF.out w4 hB4))
    | (go_at_call 59; refine (C5.out ho4 hB4).mono ?_; rintro e w5 ⟨A5, c5, rfl, ho5, hB5, hb5⟩)
    | fail)
  go_ret
  have hb := HZ.out.trans (hB5.mono HZ.out.size)
  exact ⟨A5, c5, rfl, own_of HZ.out.size ho5, hb, hb⟩
theorem encode10 : EncodeC10 := fun hM h hB => (encode_raw hM h).mono fun en w' ⟨A', c', h1, h2, h3, h4⟩ => ⟨A', c', h1, own_of hB.size h2, hB.trans (h3.mono hB.size), h4⟩
end Go.Proofs.YthfnnieklkaefaaGreat

namespace Go.Proofs.YthfnnieklkaefaaGreat
open Go.RowKit
set_option linter.unusedVariables false
section
variable {P : Program} {t e : TypeId} {z : Value} {bytes size : Nat} {w : World}
theorem wp_append_at (base : Nat) (hb0 : base ≤ w.heap.size) (hT : CellT P t e z bytes) {o : Oper} {a : Act} {next : Act → World → Prop} {Q : Exit → Act → World → Prop} (s x : Operand)
    (ho : o.op = .call { callee := .builtin .append, args := #[s, x], argTypes := #[t, t] })
    {A : Option Addr} {n c : Nat} {vs : List Value} (hs : a.eval s = .slice A n c) (hown : w.ownsRow base e 1 (.slice A n c) n vs)
    {B : Nat} {A' : Option Addr} {m c' : Nat} {ws : List Value} (hx : a.eval x = .slice A' m c') (hr : Rd w B A' m ws) (h1 : ∀ u ∈ ws, u.oneCell' = true) (hnm : n + m ≤ 1099511627776) (hby : bytes ≤ 64)
    (h : ∀ A2 c2 w2, w2.ownsRow base e 1 (.slice A2 (n + m) c2) (n + m) (vs ++ ws) → w.grownBy w2 (Value.slice A n c).ownBlock → next (a.put o.dst (.slice A2 (n + m) c2)) w2) : o.wp P a w next Q := by
  obtain ⟨i, hi, hz, hsz, hbi⟩ := info_parts hT.info
  obtain ⟨v', w', hrun, h2, h3, h4⟩ := run_append_rd (P := P) w base t o.type e i z bytes hT.under hi hz hsz hbi hT.one _ n vs hown B A' m c' ws hr h1
    (by unfold maxLen; omega) (by have := Nat.mul_le_mul hnm hby; omega) hb0
  obtain ⟨A2, c2, rfl, hr2⟩ := Rd.of_own h2
  have hgo := h A2 c2 w' h2 h3
  unfold Oper.wp execOp
  simp only [ho, resolve, invoke, builtin, Sem.run_bind, Sem.run_pure, Result.andThen_ok, List.map_toArray, List.map_cons, List.map_nil, hs, hx, hrun]
  exact hgo
theorem wp_append_atS (base : Nat) (hb0 : base ≤ w.heap.size) (hT : CellS P t e z size bytes) {o : Oper} {a : Act} {next : Act → World → Prop} {Q : Exit → Act → World → Prop} (s x : Operand)
    (ho : o.op = .call { callee := .builtin .append, args := #[s, x], argTypes := #[t, t] })
    {A : Option Addr} {n c : Nat} {vs : List Value} (hs : a.eval s = .slice A n c) (hown : w.ownsRow base e size (.slice A n c) n vs)
    {B : Nat} {A' : Option Addr} {m c' : Nat} {ws : List Value} (hx : a.eval x = .slice A' m c') (hr : Rd w B A' (m * size) ws) (h1 : ∀ u ∈ ws, u.oneCell' = true) (hnm : n + m ≤ 1099511627776) (hby : bytes ≤ 100)
    (h : ∀ A2 c2 w2, w2.ownsRow base e size (.slice A2 (n + m) c2) (n + m) (vs ++ ws) → w.grownBy w2 (Value.slice A n c).ownBlock → next (a.put o.dst (.slice A2 (n + m) c2)) w2) : o.wp P a w next Q := by
  obtain ⟨i, hi, hz, hsz, hbi⟩ := info_parts hT.info
  obtain ⟨v', w', hrun, h2, h3, h4⟩ := run_append_rdS (P := P) w base t o.type e i z size bytes hT.under hi hz hsz hbi hT.one hT.pos _ n vs hown B A' m c' ws hr h1
    (by unfold maxLen; omega) (by have := Nat.mul_le_mul hnm hby; omega) hb0
  obtain ⟨A2, c2, rfl, hr2⟩ := Rd.of_ownS h2 hT.pos
  have hgo := h A2 c2 w' h2 h3
  unfold Oper.wp execOp
  simp only [ho, resolve, invoke, builtin, Sem.run_bind, Sem.run_pure, Result.andThen_ok, List.map_toArray, List.map_cons, List.map_nil, hs, hx, hrun]
  exact hgo
theorem wpList_append_at (base : Nat) (hb0 : base ≤ w.heap.size) (hT : CellT P t e z bytes) {ops : Array Oper} {rest : List Oper} {o : Oper} {a : Act} {Q : Exit → Act → World → Prop} (s x : Operand)
    (ho : o.op = .call { callee := .builtin .append, args := #[s, x], argTypes := #[t, t] }) (hw : Region.wanted o (yielded ops a.tmps) = true)
    {A : Option Addr} {n c : Nat} {vs : List Value} (hs : a.eval s = .slice A n c) (hown : w.ownsRow base e 1 (.slice A n c) n vs)
    {B : Nat} {A' : Option Addr} {m c' : Nat} {ws : List Value} (hx : a.eval x = .slice A' m c') (hr : Rd w B A' m ws) (h1 : ∀ u ∈ ws, u.oneCell' = true) (hnm : n + m ≤ 1099511627776) (hby : bytes ≤ 64)
    (h : ∀ A2 c2 w2, w2.ownsRow base e 1 (.slice A2 (n + m) c2) (n + m) (vs ++ ws) → w.grownBy w2 (Value.slice A n c).ownBlock → wpList P ops Q rest (a.put o.dst (.slice A2 (n + m) c2)) w2) :
    wpList P ops Q (o :: rest) a w := by
  unfold wpList
  rw [if_pos hw]
  exact .inl (wp_append_at base hb0 hT s x ho hs hown hx hr h1 hnm hby h)
theorem wpList_append_atS (base : Nat) (hb0 : base ≤ w.heap.size) (hT : CellS P t e z size bytes) {ops : Array Oper} {rest : List Oper} {o : Oper} {a : Act} {Q : Exit → Act → World → Prop} (s x : Operand)
    (ho : o.op = .call { callee := .builtin .append, args := #[s, x], argTypes := #[t, t] }) (hw : Region.wanted o (yielded ops a.tmps) = true)
    {A : Option Addr} {n c : Nat} {vs : List Value} (hs : a.eval s = .slice A n c) (hown : w.ownsRow base e size (.slice A n c) n vs)
    {B : Nat} {A' : Option Addr} {m c' : Nat} {ws : List Value} (hx : a.eval x = .slice A' m c') (hr : Rd w B A' (m * size) ws) (h1 : ∀ u ∈ ws, u.oneCell' = true) (hnm : n + m ≤ 1099511627776) (hby : bytes ≤ 100)
    (h : ∀ A2 c2 w2, w2.ownsRow base e size (.slice A2 (n + m) c2) (n + m) (vs ++ ws) → w.grownBy w2 (Value.slice A n c).ownBlock → wpList P ops Q rest (a.put o.dst (.slice A2 (n + m) c2)) w2) :
    wpList P ops Q (o :: rest) a w := by
  unfold wpList
  rw [if_pos hw]
  exact .inl (wp_append_atS base hb0 hT s x ho hs hown hx hr h1 hnm hby h)
end
end Go.Proofs.YthfnnieklkaefaaGreat

namespace Go.Proofs.YthfnnieklkaefaaGreat
open Go.RowKit
set_option linter.unusedVariables false
/-- an own row of bytes, over what a reader turns -/
theorem own_read {w wx wy : World} {A : Option Addr} {n c b : Nat} {l : List Nat} (h : OwnB w wx A n c l) (ho : Only b wx wy) (hb : b < w.heap.size) : OwnB w wy A n c l := own_old h ho (Old.some hb)
end Go.Proofs.YthfnnieklkaefaaGreat

namespace Go.Proofs.YthfnnieklkaefaaGreat
open Go.RowKit
set_option linter.unusedVariables false
/-- the state of a walk that reads: reader, what is turned -/
structure RgSt (w wx : World) (b : Nat) (s : Pk.St) : Prop where
  r : RdrAt wx b s
  only : Only b w wx
section
variable {w wx wy : World} {b g i : Nat} {s s' : Pk.St} {t e : TypeId} {cs : Array Value} {u : Value}
theorem RgSt.size (h : RgSt w wx b s) : w.heap.size ≤ wx.heap.size := h.only.size
theorem RgSt.call (h : RgSt w wx b s) (hr : RdrAt wy b s') (ho : Only b wx wy) : RgSt w wy b s' := ⟨hr, only_trans h.only ho⟩
theorem RgSt.below (h : RgSt w wx b s) (hb : Below wx.heap.size wx wy) : RgSt w wy b s := ⟨h.r.below hb, only_below h.only hb h.size⟩
theorem RgSt.set (h : RgSt w wx b s) (hk : Blk wx g t cs) (h1 : 5 ≠ t) (h2 : 105 ≠ t) (hg : w.heap.size ≤ g) : RgSt w (wx.setCell ⟨g, i, none⟩ u) b s := by
  obtain ⟨A, n, c, hb, q1, q2, q3, q4, q5⟩ := h.r
  exact ⟨⟨A, n, c, hb.set_other (hb.apart hk h2), q1, q2, q3, q4.grown (only_set (only_refl g wx) i u) hk h1, q5⟩, only_below h.only ((Below.refl w.heap.size wx).setCell (p := ⟨g, i, none⟩) hg u) (Nat.le_refl _)⟩
theorem RgSt.row {A : Option Addr} {n c size : Nat} {xs : List Value} (h : RgSt w wx b s) (ho : wx.ownsRow w.heap.size e size (.slice A n c) n xs) (h1 : 5 ≠ e) (h2 : 105 ≠ e) (hg : wx.grownBy wy (Value.slice A n c).ownBlock) : RgSt w wy b s := by
  obtain ⟨A', n', c', hb, q1, q2, q3, q4, q5⟩ := h.r
  exact ⟨⟨A', n', c', hb.apart_own ho h2 hg, q1, q2, q3, q4.kept ho h1 hg, q5⟩, only_below h.only ((Below.refl w.heap.size wx).grown hg h.size (fun k hk => (ho.lt k hk).1)) (Nat.le_refl _)⟩
end
theorem getVal_any (w : World) (b : Nat) (s : Pk.St) (h : RdrAt w b s) {v : List Nat} {s' : Pk.St} (hv : Pk.bytV s 16 = v) (hs : Pk.bytS s 16 = s') :
    Calls Tryz.prog 40 #[.pointer (some ⟨b, 0, none⟩)] w fun e w' => ∃ A c, e = .returned (.slice A v.length c) ∧ OwnB w w' A v.length c v ∧ RdrAt w' b s' ∧ Only b w w' := by
  have HC := Lib.hid (rbytes_is w b s 16 h v s' hv hs)
  clear h hv hs
  go_enter Tryz.func40, Tryz.ntmps40
  go_wp2_with (first
    | (go_at_call 71; refine HC.out.mono ?_; rintro e w1 ⟨A1, n1, c1, rfl, ho1, hr1, hb1⟩; obtain rfl := own_len ho1)
    | fail)
  go_ret
  exact ⟨A1, c1, rfl, ho1, hr1, hb1⟩
theorem getWho_any (w : World) (b : Nat) (s : Pk.St) (h : RdrAt w b s) {v : Nat} {s' : Pk.St} (hv : Pk.numV s 999 = v) (hs : Pk.numS s 999 = s') :
    Calls Tryz.prog 43 #[.pointer (some ⟨b, 0, none⟩)] w (NumP w b v s') := by
  have HC := Lib.hid (rnum_is w b s 999 h v s' hv hs)
  clear h hv hs
  go_enter Tryz.func43, Tryz.ntmps43
  go_wp2_with (first
    | (go_at_call 70; refine HC.out.mono ?_; rintro e w1 ⟨rfl, hr1, hb1⟩)
    | fail)
  go_ret
  exact ⟨rfl, hr1, hb1⟩
set_option maxHeartbeats 4000000 in
set_option maxRecDepth 100000 in
theorem getPair_any (w : World) (b : Nat) (s : Pk.St) (h : RdrAt w b s) :
    Calls Tryz.prog 45 #[.pointer (some ⟨b, 0, none⟩)] w fun en w' => ∃ A1 c1 A2 c2, en = .returned (.agg #[.slice A1 (getP1 s).1.1.length c1, .slice A2 (getP1 s).1.2.length c2]) ∧ OwnB w w' A1 (getP1 s).1.1.length c1 (getP1 s).1.1 ∧ OwnB w w' A2 (getP1 s).1.2.length c2 (getP1 s).1.2 ∧ RdrAt w' b (getP1 s).2 ∧ Only b w w' := by
  have hbl := h.lt
  have HBL := Lib.hid hbl
  have h0 : RgSt w w b s := ⟨h, only_refl b w⟩
  obtain ⟨s0, es⟩ : ∃ x, s = x := ⟨_, rfl⟩
  obtain ⟨v0, d0⟩ : ∃ x, Pk.bytV s0 8 = x := ⟨_, rfl⟩
  obtain ⟨s1, e0⟩ : ∃ x, Pk.bytS s0 8 = x := ⟨_, rfl⟩
  obtain ⟨v1, d1⟩ : ∃ x, Pk.bytV s1 16 = x := ⟨_, rfl⟩
  obtain ⟨s2, e1⟩ : ∃ x, Pk.bytS s1 16 = x := ⟨_, rfl⟩
  have HRES : Hid (getP1 s0 = ((v0, v1), s2)) := Lib.hid (by unfold getP1; rw [d0, e0, d1, e1])
  subst es
  have C0 := Lib.hid (fun w h => rbytes_is w b _ 8 h _ _ d0 e0)
  have C1 := Lib.hid (fun w h => getVal_any w b _ h d1 e1)
  clear d0 e0 d1 e1
  have bb : Below w.heap.size w ((w.alloc (.cells #[.slice none 0 0, .slice none 0 0] 86)).alloc (.cells #[.slice none 0 0, .slice none 0 0] 86)) := ((Below.refl _ _).alloc (Nat.le_refl _) _).alloc (by simp) _
  have HR0 := Lib.hid (h0.below bb)
  have HK2 := Lib.hid ((Blk.new w 86 #[.slice none 0 0, .slice none 0 0]).alloc (.cells #[.slice none 0 0, .slice none 0 0] 86))
  have HK3 := Lib.hid (Blk.new (w.alloc (.cells #[.slice none 0 0, .slice none 0 0] 86)) 86 #[.slice none 0 0, .slice none 0 0])
  rw [World.size_alloc] at HK3
  have hne : w.heap.size ≠ b := by omega
  have hne3 : w.heap.size + 1 ≠ b := by omega
  clear h h0 bb
  go_enter Tryz.func45, Tryz.ntmps45
  go_upto_region 2 with fail
  generalize (w.alloc (.cells #[.slice none 0 0, .slice none 0 0] 86)).alloc (.cells #[.slice none 0 0, .slice none 0 0] 86) = wx0 at HR0 HK2 HK3 ⊢
  go_upto_region 3 with (first
    | (go_at_call 71; refine (C0.out _ HR0.out.r).mono ?_; rintro en w1 ⟨A0, n0, c0, rfl, hv, hr, ho⟩; obtain rfl := own_len hv
       have HRC := Lib.hid (HR0.out.call hr ho)
       have HK2 := Lib.hid (HK2.out.grown ho (by simpa using hne))
       have HK3 := Lib.hid (HK3.out.grown ho (by simpa using hne3))
       have HV0 := Lib.hid (own_of HR0.out.size hv)
       have x0 := HK3.out.cell 0
       have f0 := HK3.out.frozen 0
       have x1 := HK3.out.cell 1
       have f1 := HK3.out.frozen 1
       clear hr ho C0 hv)
    | fail)
  have HR1 : Hid (RgSt w (w1.setCell ⟨w.heap.size + 1, 0, none⟩ (.slice A0 v0.length c0)) b s1) := Lib.hid (HRC.out.set HK3.out (by decide) (by decide) (by omega))
  have HK2 := Lib.hid (HK2.out.set_other (i := 0) (u := .slice A0 v0.length c0) (b := w.heap.size + 1) (by omega))
  have HV0 : Hid (OwnB w (w1.setCell ⟨w.heap.size + 1, 0, none⟩ (.slice A0 v0.length c0)) A0 v0.length c0 v0) := Lib.hid (own_set_t HV0.out HK3.out (by decide))
  have HK3 : Hid (Blk (w1.setCell ⟨w.heap.size + 1, 0, none⟩ (.slice A0 v0.length c0)) (w.heap.size + 1) 86 #[.slice A0 v0.length c0, .slice none 0 0]) := Lib.hid (HK3.out.set_ 0 (.slice A0 v0.length c0))
  clear HRC x0 f0 x1 f1
  generalize w1.setCell ⟨w.heap.size + 1, 0, none⟩ (.slice A0 v0.length c0) = wx1 at HR1 HK2 HK3 HV0 ⊢
  go_upto_region 4 with (first
    | (go_at_call 40; refine (C1.out _ HR1.out.r).mono ?_; rintro en w2 ⟨A1, c1, rfl, hv, hr, ho⟩
       have HRC := Lib.hid (HR1.out.call hr ho)
       have HK2 := Lib.hid (HK2.out.grown ho (by simpa using hne))
       have HK3 := Lib.hid (HK3.out.grown ho (by simpa using hne3))
       have HV0 := Lib.hid (own_read HV0.out ho HBL.out)
       have HV1 := Lib.hid (own_of HR1.out.size hv)
       have x0 := HK3.out.cell 0
       have f0 := HK3.out.frozen 0
       have x1 := HK3.out.cell 1
       have f1 := HK3.out.frozen 1
       clear hr ho C1 hv)
    | fail)
  have HR2 : Hid (RgSt w (w2.setCell ⟨w.heap.size + 1, 1, none⟩ (.slice A1 v1.length c1)) b s2) := Lib.hid (HRC.out.set HK3.out (by decide) (by decide) (by omega))
  have HK2 := Lib.hid (HK2.out.set_other (i := 1) (u := .slice A1 v1.length c1) (b := w.heap.size + 1) (by omega))
  have HV0 : Hid (OwnB w (w2.setCell ⟨w.heap.size + 1, 1, none⟩ (.slice A1 v1.length c1)) A0 v0.length c0 v0) := Lib.hid (own_set_t HV0.out HK3.out (by decide))
  have HV1 : Hid (OwnB w (w2.setCell ⟨w.heap.size + 1, 1, none⟩ (.slice A1 v1.length c1)) A1 v1.length c1 v1) := Lib.hid (own_set_t HV1.out HK3.out (by decide))
  have HK3 : Hid (Blk (w2.setCell ⟨w.heap.size + 1, 1, none⟩ (.slice A1 v1.length c1)) (w.heap.size + 1) 86 #[.slice A0 v0.length c0, .slice A1 v1.length c1]) := Lib.hid (HK3.out.set_ 1 (.slice A1 v1.length c1))
  clear HRC x0 f0 x1 f1
  generalize w2.setCell ⟨w.heap.size + 1, 1, none⟩ (.slice A1 v1.length c1) = wx2 at HR2 HK2 HK3 HV0 HV1 ⊢
  have HRN := HR2
  have x0 := HK2.out.cell 0
  have f0 := HK2.out.frozen 0
  have y0 := HK3.out.cell 0
  have x1 := HK2.out.cell 1
  have f1 := HK2.out.frozen 1
  have y1 := HK3.out.cell 1
  go_wp2_with fail
  have q0 := HK2.out
  have q1 := q0.set_ 0 (.slice A0 v0.length c0)
  have q2 := q1.set_ 1 (.slice A1 v1.length c1)
  refine bodyPost_ret (results_cell_row rfl _ _ _ _ _ _ _ rfl q2 Tryz.underlying86 rfl (by kernel_rfl)) rfl ?_
  have hrg := ((HRN.out).set (i := 0) (u := .slice A0 v0.length c0) q0 (by decide) (by decide) (Nat.le_refl _)).set (i := 1) (u := .slice A1 v1.length c1) q1 (by decide) (by decide) (Nat.le_refl _)
  rw [HRES.out]
  exact ⟨A0, c0, A1, c1, rfl, own_set_t (own_set_t (HV0.out) q0 (by decide)) q1 (by decide), own_set_t (own_set_t (HV1.out) q0 (by decide)) q1 (by decide), hrg.r, hrg.only⟩
set_option maxHeartbeats 4000000 in
set_option maxRecDepth 100000 in
theorem getLast_any (w : World) (b : Nat) (s : Pk.St) (h : RdrAt w b s) :
    Calls Tryz.prog 47 #[.pointer (some ⟨b, 0, none⟩)] w fun en w' => ∃ A c, en = .returned (.agg #[.int .i64 (getT1 s).1.s, .int .i64 (getT1 s).1.q, .int .i64 (getT1 s).1.e, .slice A (getT1 s).1.v.length c, .int .i64 (getT1 s).1.n]) ∧ OwnB w w' A (getT1 s).1.v.length c (getT1 s).1.v ∧ RdrAt w' b (getT1 s).2 ∧ Only b w w' := by
  have hbl := h.lt
  have HBL := Lib.hid hbl
  have h0 : RgSt w w b s := ⟨h, only_refl b w⟩
  obtain ⟨s0, es⟩ : ∃ x, s = x := ⟨_, rfl⟩
  obtain ⟨v0, d0⟩ : ∃ x, Pk.numV s0 1073741824 = x := ⟨_, rfl⟩
  obtain ⟨s1, e0⟩ : ∃ x, Pk.numS s0 1073741824 = x := ⟨_, rfl⟩
  obtain ⟨v1, d1⟩ : ∃ x, Pk.numV s1 1073741824 = x := ⟨_, rfl⟩
  obtain ⟨s2, e1⟩ : ∃ x, Pk.numS s1 1073741824 = x := ⟨_, rfl⟩
  obtain ⟨v2, d2⟩ : ∃ x, Pk.numV s2 10 = x := ⟨_, rfl⟩
  obtain ⟨s3, e2⟩ : ∃ x, Pk.numS s2 10 = x := ⟨_, rfl⟩
  obtain ⟨v3, d3⟩ : ∃ x, Pk.numV s3 1073741825 = x := ⟨_, rfl⟩
  obtain ⟨s4, e3⟩ : ∃ x, Pk.numS s3 1073741825 = x := ⟨_, rfl⟩
  obtain ⟨v4, d4⟩ : ∃ x, Pk.bytV s4 16 = x := ⟨_, rfl⟩
  obtain ⟨s5, e4⟩ : ∃ x, Pk.bytS s4 16 = x := ⟨_, rfl⟩
  have HRES : Hid (getT1 s0 = (⟨v0, v1, v2, v4, (v3 : Int) - 1⟩, s5)) := Lib.hid (by unfold getT1; simp only [e0, e1, e2, e3, e4, d0, d1, d2, d3, d4])
  have hv3 : (v3 : Int) ≤ 1073741825 := by rw [← d3]; exact numV_le _ (by omega)
  have hw3 : IntKind.i64.wrap ((v3 : Int) - 1) = (v3 : Int) - 1 := IntWalk.i64_in _ (by omega)
  clear hv3
  subst es
  have C0 := Lib.hid (fun w h => rnum_is w b _ 1073741824 h _ _ d0 e0)
  have C1 := Lib.hid (fun w h => rnum_is w b _ 1073741824 h _ _ d1 e1)
  have C2 := Lib.hid (fun w h => rnum_is w b _ 10 h _ _ d2 e2)
  have C3 := Lib.hid (fun w h => rnum_is w b _ 1073741825 h _ _ d3 e3)
  have C4 := Lib.hid (fun w h => getVal_any w b _ h d4 e4)
  clear d0 e0 d1 e1 d2 e2 d3 e3 d4 e4
  have bb : Below w.heap.size w ((w.alloc (.cells #[.int .i64 0, .int .i64 0, .int .i64 0, .slice none 0 0, .int .i64 0] 54)).alloc (.cells #[.int .i64 0, .int .i64 0, .int .i64 0, .slice none 0 0, .int .i64 0] 54)) := ((Below.refl _ _).alloc (Nat.le_refl _) _).alloc (by simp) _
  have HR0 := Lib.hid (h0.below bb)
  have HK2 := Lib.hid ((Blk.new w 54 #[.int .i64 0, .int .i64 0, .int .i64 0, .slice none 0 0, .int .i64 0]).alloc (.cells #[.int .i64 0, .int .i64 0, .int .i64 0, .slice none 0 0, .int .i64 0] 54))
  have HK3 := Lib.hid (Blk.new (w.alloc (.cells #[.int .i64 0, .int .i64 0, .int .i64 0, .slice none 0 0, .int .i64 0] 54)) 54 #[.int .i64 0, .int .i64 0, .int .i64 0, .slice none 0 0, .int .i64 0])
  rw [World.size_alloc] at HK3
  have hne : w.heap.size ≠ b := by omega
  have hne3 : w.heap.size + 1 ≠ b := by omega
  clear h h0 bb
  go_enter Tryz.func47, Tryz.ntmps47
  go_upto_region 2 with fail
  generalize (w.alloc (.cells #[.int .i64 0, .int .i64 0, .int .i64 0, .slice none 0 0, .int .i64 0] 54)).alloc (.cells #[.int .i64 0, .int .i64 0, .int .i64 0, .slice none 0 0, .int .i64 0] 54) = wx0 at HR0 HK2 HK3 ⊢
  go_upto_region 3 with (first
    | (go_at_call 70; refine (C0.out _ HR0.out.r).mono ?_; rintro en w1 ⟨rfl, hr, ho⟩
       have HRC := Lib.hid (HR0.out.call hr ho)
       have HK2 := Lib.hid (HK2.out.grown ho (by simpa using hne))
       have HK3 := Lib.hid (HK3.out.grown ho (by simpa using hne3))
       have x0 := HK3.out.cell 0
       have f0 := HK3.out.frozen 0
       have x1 := HK3.out.cell 1
       have f1 := HK3.out.frozen 1
       have x2 := HK3.out.cell 2
       have f2 := HK3.out.frozen 2
       have x3 := HK3.out.cell 3
       have f3 := HK3.out.frozen 3
       have x4 := HK3.out.cell 4
       have f4 := HK3.out.frozen 4
       clear hr ho C0)
    | fail)
  have HR1 : Hid (RgSt w (w1.setCell ⟨w.heap.size + 1, 0, none⟩ (.int .i64 (v0 : Int))) b s1) := Lib.hid (HRC.out.set HK3.out (by decide) (by decide) (by omega))
  have HK2 := Lib.hid (HK2.out.set_other (i := 0) (u := .int .i64 (v0 : Int)) (b := w.heap.size + 1) (by omega))
  have HK3 : Hid (Blk (w1.setCell ⟨w.heap.size + 1, 0, none⟩ (.int .i64 (v0 : Int))) (w.heap.size + 1) 54 #[.int .i64 (v0 : Int), .int .i64 0, .int .i64 0, .slice none 0 0, .int .i64 0]) := Lib.hid (HK3.out.set_ 0 (.int .i64 (v0 : Int)))
  clear HRC x0 f0 x1 f1 x2 f2 x3 f3 x4 f4
  generalize w1.setCell ⟨w.heap.size + 1, 0, none⟩ (.int .i64 (v0 : Int)) = wx1 at HR1 HK2 HK3  ⊢
  go_upto_region 4 with (first
    | (go_at_call 70; refine (C1.out _ HR1.out.r).mono ?_; rintro en w2 ⟨rfl, hr, ho⟩
       have HRC := Lib.hid (HR1.out.call hr ho)
       have HK2 := Lib.hid (HK2.out.grown ho (by simpa using hne))
       have HK3 := Lib.hid (HK3.out.grown ho (by simpa using hne3))
       have x0 := HK3.out.cell 0
       have f0 := HK3.out.frozen 0
       have x1 := HK3.out.cell 1
       have f1 := HK3.out.frozen 1
       have x2 := HK3.out.cell 2
       have f2 := HK3.out.frozen 2
       have x3 := HK3.out.cell 3
       have f3 := HK3.out.frozen 3
       have x4 := HK3.out.cell 4
       have f4 := HK3.out.frozen 4
       clear hr ho C1)
    | fail)
  have HR2 : Hid (RgSt w (w2.setCell ⟨w.heap.size + 1, 1, none⟩ (.int .i64 (v1 : Int))) b s2) := Lib.hid (HRC.out.set HK3.out (by decide) (by decide) (by omega))
  have HK2 := Lib.hid (HK2.out.set_other (i := 1) (u := .int .i64 (v1 : Int)) (b := w.heap.size + 1) (by omega))
  have HK3 : Hid (Blk (w2.setCell ⟨w.heap.size + 1, 1, none⟩ (.int .i64 (v1 : Int))) (w.heap.size + 1) 54 #[.int .i64 (v0 : Int), .int .i64 (v1 : Int), .int .i64 0, .slice none 0 0, .int .i64 0]) := Lib.hid (HK3.out.set_ 1 (.int .i64 (v1 : Int)))
  clear HRC x0 f0 x1 f1 x2 f2 x3 f3 x4 f4
  generalize w2.setCell ⟨w.heap.size + 1, 1, none⟩ (.int .i64 (v1 : Int)) = wx2 at HR2 HK2 HK3  ⊢
  go_upto_region 5 with (first
    | (go_at_call 70; refine (C2.out _ HR2.out.r).mono ?_; rintro en w3 ⟨rfl, hr, ho⟩
       have HRC := Lib.hid (HR2.out.call hr ho)
       have HK2 := Lib.hid (HK2.out.grown ho (by simpa using hne))
       have HK3 := Lib.hid (HK3.out.grown ho (by simpa using hne3))
       have x0 := HK3.out.cell 0
       have f0 := HK3.out.frozen 0
       have x1 := HK3.out.cell 1
       have f1 := HK3.out.frozen 1
       have x2 := HK3.out.cell 2
       have f2 := HK3.out.frozen 2
       have x3 := HK3.out.cell 3
       have f3 := HK3.out.frozen 3
       have x4 := HK3.out.cell 4
       have f4 := HK3.out.frozen 4
       clear hr ho C2)
    | fail)
  have HR3 : Hid (RgSt w (w3.setCell ⟨w.heap.size + 1, 2, none⟩ (.int .i64 (v2 : Int))) b s3) := Lib.hid (HRC.out.set HK3.out (by decide) (by decide) (by omega))
  have HK2 := Lib.hid (HK2.out.set_other (i := 2) (u := .int .i64 (v2 : Int)) (b := w.heap.size + 1) (by omega))
  have HK3 : Hid (Blk (w3.setCell ⟨w.heap.size + 1, 2, none⟩ (.int .i64 (v2 : Int))) (w.heap.size + 1) 54 #[.int .i64 (v0 : Int), .int .i64 (v1 : Int), .int .i64 (v2 : Int), .slice none 0 0, .int .i64 0]) := Lib.hid (HK3.out.set_ 2 (.int .i64 (v2 : Int)))
  clear HRC x0 f0 x1 f1 x2 f2 x3 f3 x4 f4
  generalize w3.setCell ⟨w.heap.size + 1, 2, none⟩ (.int .i64 (v2 : Int)) = wx3 at HR3 HK2 HK3  ⊢
  go_upto_region 6 with (first
    | (go_at_call 70; refine (C3.out _ HR3.out.r).mono ?_; rintro en w4 ⟨rfl, hr, ho⟩
       have HRC := Lib.hid (HR3.out.call hr ho)
       have HK2 := Lib.hid (HK2.out.grown ho (by simpa using hne))
       have HK3 := Lib.hid (HK3.out.grown ho (by simpa using hne3))
       have x0 := HK3.out.cell 0
       have f0 := HK3.out.frozen 0
       have x1 := HK3.out.cell 1
       have f1 := HK3.out.frozen 1
       have x2 := HK3.out.cell 2
       have f2 := HK3.out.frozen 2
       have x3 := HK3.out.cell 3
       have f3 := HK3.out.frozen 3
       have x4 := HK3.out.cell 4
       have f4 := HK3.out.frozen 4
       clear hr ho C3)
    | fail)
  have HR4 : Hid (RgSt w (w4.setCell ⟨w.heap.size + 1, 4, none⟩ (.int .i64 ((v3 : Int) - 1))) b s4) := Lib.hid (HRC.out.set HK3.out (by decide) (by decide) (by omega))
  have HK2 := Lib.hid (HK2.out.set_other (i := 4) (u := .int .i64 ((v3 : Int) - 1)) (b := w.heap.size + 1) (by omega))
  have HK3 : Hid (Blk (w4.setCell ⟨w.heap.size + 1, 4, none⟩ (.int .i64 ((v3 : Int) - 1))) (w.heap.size + 1) 54 #[.int .i64 (v0 : Int), .int .i64 (v1 : Int), .int .i64 (v2 : Int), .slice none 0 0, .int .i64 ((v3 : Int) - 1)]) := Lib.hid (HK3.out.set_ 4 (.int .i64 ((v3 : Int) - 1)))
  clear HRC x0 f0 x1 f1 x2 f2 x3 f3 x4 f4
  generalize w4.setCell ⟨w.heap.size + 1, 4, none⟩ (.int .i64 ((v3 : Int) - 1)) = wx4 at HR4 HK2 HK3  ⊢
  go_upto_region 7 with (first
    | (go_at_call 40; refine (C4.out _ HR4.out.r).mono ?_; rintro en w5 ⟨A4, c4, rfl, hv, hr, ho⟩
       have HRC := Lib.hid (HR4.out.call hr ho)
       have HK2 := Lib.hid (HK2.out.grown ho (by simpa using hne))
       have HK3 := Lib.hid (HK3.out.grown ho (by simpa using hne3))
       have HV4 := Lib.hid (own_of HR4.out.size hv)
       have x0 := HK3.out.cell 0
       have f0 := HK3.out.frozen 0
       have x1 := HK3.out.cell 1
       have f1 := HK3.out.frozen 1
       have x2 := HK3.out.cell 2
       have f2 := HK3.out.frozen 2
       have x3 := HK3.out.cell 3
       have f3 := HK3.out.frozen 3
       have x4 := HK3.out.cell 4
       have f4 := HK3.out.frozen 4
       clear hr ho C4 hv)
    | fail)
  have HR5 : Hid (RgSt w (w5.setCell ⟨w.heap.size + 1, 3, none⟩ (.slice A4 v4.length c4)) b s5) := Lib.hid (HRC.out.set HK3.out (by decide) (by decide) (by omega))
  have HK2 := Lib.hid (HK2.out.set_other (i := 3) (u := .slice A4 v4.length c4) (b := w.heap.size + 1) (by omega))
  have HV4 : Hid (OwnB w (w5.setCell ⟨w.heap.size + 1, 3, none⟩ (.slice A4 v4.length c4)) A4 v4.length c4 v4) := Lib.hid (own_set_t HV4.out HK3.out (by decide))
  have HK3 : Hid (Blk (w5.setCell ⟨w.heap.size + 1, 3, none⟩ (.slice A4 v4.length c4)) (w.heap.size + 1) 54 #[.int .i64 (v0 : Int), .int .i64 (v1 : Int), .int .i64 (v2 : Int), .slice A4 v4.length c4, .int .i64 ((v3 : Int) - 1)]) := Lib.hid (HK3.out.set_ 3 (.slice A4 v4.length c4))
  clear HRC x0 f0 x1 f1 x2 f2 x3 f3 x4 f4
  generalize w5.setCell ⟨w.heap.size + 1, 3, none⟩ (.slice A4 v4.length c4) = wx5 at HR5 HK2 HK3 HV4 ⊢
  have HRN := HR5
  have x0 := HK2.out.cell 0
  have f0 := HK2.out.frozen 0
  have y0 := HK3.out.cell 0
  have x1 := HK2.out.cell 1
  have f1 := HK2.out.frozen 1
  have y1 := HK3.out.cell 1
  have x2 := HK2.out.cell 2
  have f2 := HK2.out.frozen 2
  have y2 := HK3.out.cell 2
  have x3 := HK2.out.cell 3
  have f3 := HK2.out.frozen 3
  have y3 := HK3.out.cell 3
  have x4 := HK2.out.cell 4
  have f4 := HK2.out.frozen 4
  have y4 := HK3.out.cell 4
  go_wp2_with fail
  have q0 := HK2.out
  have q1 := q0.set_ 0 (.int .i64 (v0 : Int))
  have q2 := q1.set_ 1 (.int .i64 (v1 : Int))
  have q3 := q2.set_ 2 (.int .i64 (v2 : Int))
  have q4 := q3.set_ 3 (.slice A4 v4.length c4)
  have q5 := q4.set_ 4 (.int .i64 ((v3 : Int) - 1))
  refine bodyPost_ret (results_cell_row rfl _ _ _ _ _ _ _ rfl q5 Tryz.underlying54 rfl (by kernel_rfl)) rfl ?_
  have hrg := (((((HRN.out).set (i := 0) (u := .int .i64 (v0 : Int)) q0 (by decide) (by decide) (Nat.le_refl _)).set (i := 1) (u := .int .i64 (v1 : Int)) q1 (by decide) (by decide) (Nat.le_refl _)).set (i := 2) (u := .int .i64 (v2 : Int)) q2 (by decide) (by decide) (Nat.le_refl _)).set (i := 3) (u := .slice A4 v4.length c4) q3 (by decide) (by decide) (Nat.le_refl _)).set (i := 4) (u := .int .i64 ((v3 : Int) - 1)) q4 (by decide) (by decide) (Nat.le_refl _)
  rw [HRES.out]
  exact ⟨A4, c4, rfl, own_set_t (own_set_t (own_set_t (own_set_t (own_set_t (HV4.out) q0 (by decide)) q1 (by decide)) q2 (by decide)) q3 (by decide)) q4 (by decide), hrg.r, hrg.only⟩
end Go.Proofs.YthfnnieklkaefaaGreat

