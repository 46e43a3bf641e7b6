/- FramBurstsWalk -/
import Derived.Test.YtlfkgpllleogoaaFQ40
namespace Go.Proofs.Ytlfkgpllleogoaa
open Go.RowKit
set_option linter.unusedVariables false
theorem fram_nat_ne (n : Nat) : ((n : Int) != 0) = (n != 0) := by
  cases n with
  | zero => rfl
  | succ n => rw [bne_iff_ne.2 (by omega), bne_iff_ne.2 (by omega)]
set_option maxHeartbeats 8000000 in
set_option maxRecDepth 100000 in
theorem framBursts_raw (n m at_ turn : Int) (w : World) : Calls Try.prog 5 #[.int .i64 n, .int .i64 m, .int .i64 at_, .int .i64 turn] w fun e w' => e = .returned (.bool true) ∧ Below w.heap.size w w' := by
  obtain ⟨M, L, hF⟩ := frOf n m
  have HF := Lib.hid hF
  have C1 := Lib.hid hF.msg
  have hlen8 := hF.len
  clear hF
  obtain ⟨k, hk, hk2⟩ : ∃ k : Nat, (at_ % 65536).tmod ((L.length : Int) - 3) = (k : Int) ∧ k + 4 ≤ L.length := by
    rw [Int.tmod_eq_emod_of_nonneg (by omega)]
    have h1 := Int.emod_nonneg (at_ % 65536) (show ((L.length : Int) - 3) ≠ 0 by omega)
    have h2 := Int.emod_lt_of_pos (at_ % 65536) (show (0 : Int) < (L.length : Int) - 3 by omega)
    exact ⟨((at_ % 65536) % ((L.length : Int) - 3)).toNat, by omega, by omega⟩
  obtain ⟨T, hT, hT8⟩ : ∃ T : Nat → Nat, (∀ j, turn / 2 ^ (8 * j) % 256 = (T j : Int)) ∧ ∀ j, T j < 256 :=
    ⟨fun j => (turn / 2 ^ (8 * j) % 256).toNat, fun j => by show _ = (((turn / 2 ^ (8 * j) % 256).toNat : Nat) : Int); omega, fun j => by show (turn / 2 ^ (8 * j) % 256).toNat < 256; omega⟩
  have HT := Lib.hid hT
  have HT8 := Lib.hid hT8
  have HL8 := Lib.hid hlen8
  have HK2 := Lib.hid hk2
  have hz : (((L.length : Int) - 3) == 0) = false := beq_eq_false_iff_ne.2 (by omega)
  have hz8 : ¬ (L.length : Int) < 8 := by omega
  have hand := and_ffff at_
  clear hT hT8
  go_enter Try.func5, Try.ntmps5
  go_upto_region 2 with (first
    | (go_at_call 14; refine (C1.out _).mono ?_; rintro e1 w1 ⟨ax, rfl, hrx, hb1⟩; have HX := Lib.hid hrx; have HB1 := Lib.hid hb1; clear hrx hb1 C1)
    | (go_at_call 21; refine (frwrap_is (W := w1) (a := ax) (m := M) HF.out.wrap HF.out.wide HX.out (Below.refl _ _)).mono ?_; rintro e w3 ⟨A, c, rfl, ho, hB, hb⟩; have HRL := Lib.hid (Rd.own_ ho); have HB := Lib.hid (HB1.out.trans (hB.mono HB1.out.size)); clear ho hB hb HX HB1)
    | fail)
  go_upto_region 5 with fail
  clear hk hz hz8 hand
  obtain ⟨E, hE⟩ : ∃ E : Bool, decide (0 < k ∧ k < 4) = E := ⟨_, rfl⟩
  have HE := Lib.hid hE
  clear hE
  go_cut [35] from 30 to 35 (fun s35 wx => s35 = .bool E ∧ wx = w3)
  case first =>
    by_cases h0 : k = 0
    · have q2 : E = false := by rw [← HE.out]; exact decide_eq_false (by omega)
      subst q2
      have H0 := Lib.hid h0
      clear h0 HE
      go_wp2
      all_goals first | (exfalso; have := H0.out; omega) | (go_meet; exact ⟨rfl, rfl⟩)
    · have q1 : (0 : Int) < (k : Int) := by omega
      by_cases h4 : k < 4
      · have q3 : (k : Int) < 4 := by omega
        have q2 : E = true := by rw [← HE.out]; exact decide_eq_true (by omega)
        subst q2
        go_wp2
        go_meet
        exact ⟨rfl, rfl⟩
      · have q3 : ¬ (k : Int) < 4 := by omega
        have q2 : E = false := by rw [← HE.out]; exact decide_eq_false (by omega)
        subst q2
        go_wp2
        go_meet
        exact ⟨rfl, rfl⟩
  case rest =>
    obtain ⟨rfl, rfl⟩ := hcut
    rename World => w3
    go_upto_if 35 with fail
    go_cut [10] (fun s10 wx => ∃ q : Nat, s10 = .int .i64 (q : Int) ∧ Hid (q = 0 ∨ 4 ≤ q) ∧ q + 4 ≤ L.length ∧ wx = w3)
    case first =>
      cases E with
      | true =>
        have q2 := of_decide_eq_true HE.out
        go_wp2
        go_meet
        exact ⟨4, rfl, Lib.hid (.inr (Nat.le_refl _)), by omega, rfl⟩
      | false =>
        have q2 := of_decide_eq_false HE.out
        go_wp2
        go_meet
        exact ⟨k, rfl, Lib.hid (by omega), hk2, rfl⟩
    case rest =>
      obtain ⟨q, rfl, HQ, hq4, rfl⟩ := hcut
      rename World => w3
      clear hk2 HK2 HE
      go_upto_region 8 with (first
        | (at_builtin
           refine wpList_append_bytes (W := w3) byteT (.tmp 36) (.tmp 37) rfl (by rfl) rfl (own_empty (Below.refl _ _) 5) rfl (HRL.out.alloc (Nat.le_refl _) _) (by omega) ((Below.refl _ _).alloc (Nat.le_refl _) _) ?_
           intro A1 c1 w4 hown1 hr1 hB1
           simp only [Nat.zero_add, List.nil_append] at hown1 hr1
           obtain ⟨g1, rfl, hg1, hg2⟩ := own_addr hown1 (by omega)
           have HO1 := Lib.hid hown1
           have HB34 := Lib.hid hB1
           clear hown1 hr1 hB1)
        | fail)
      have HG1 := Lib.hid hg1
      clear hg2 hg1
      have hq294 : q ≤ 294 := by omega
      have HQ4 := Lib.hid hq4
      go_wp2_with fail
      go_loopw [12, 13, 14] (fun s i t wr => ∃ j : Nat, j ≤ 4 ∧ i = .int .i64 (j : Int) ∧ s = .bool (Crc.tto L.length q T j) ∧ Hid (OwnB w3 wr (some ⟨g1, 0, none⟩) L.length c1 (Crc.yto L q T j)) ∧ Hid (Below w3.heap.size w3 wr))
        (fun _ i _ _ => 4 - (intOf i).toNat)
      case atStart => exact ⟨0, by omega, rfl, rfl, HO1, HB34⟩
      case round =>
        obtain ⟨j, hj, rfl, rfl, HO4, HB4⟩ := hrel
        by_cases hlt : j < 4
        · have hTj := HT.out j
          have hyl := Crc.yto_length L q T j
          have hin : q + j < L.length := by omega
          have hgd : (Crc.yto L q T j).getD (q + j) 0 < 256 := by
            rw [List.getD_eq_getElem?_getD, List.getElem?_eq_getElem (by omega)]
            exact Crc.yto_lt L HF.out.lt q T HT8.out j _ (List.getElem_mem (by omega))
          have HY0 := Lib.hid (show Crc.yto L q T (j + 1) = (Crc.yto L q T j).set (q + j) ((Crc.yto L q T j).getD (q + j) 0 ^^^ T j) by rw [Crc.yto, if_pos hin])
          obtain ⟨y, hy⟩ : ∃ y, (Crc.yto L q T j).getD (q + j) 0 = y := ⟨_, rfl⟩
          have hc4 := own_byte HO4.out hin
          have hf4 := HO4.out.frozenAt (q + j)
          have hown5 := own_set HO4.out (q + j) (y ^^^ T j)
          have hB5 := fun u => HB4.out.setCell (p := ⟨g1, q + j, none⟩) HG1.out u
          rw [hy] at hgd hc4 HY0
          have hxj : bits .xor .u8 ((y : Nat) : Int) ((T j : Nat) : Int) = ((y ^^^ T j : Nat) : Int) := u8_xor_nat _ _ hgd (HT8.out j)
          have HTT := Lib.hid (show Crc.tto L.length q T (j + 1) = (Crc.tto L.length q T j || (T j != 0)) by rw [Crc.tto, if_pos hin])
          have H5 := Lib.hid hown5
          have HB5 := Lib.hid hB5
          clear hyl hown5 hB5 hy hgd
          cases htt : Crc.tto L.length q T j
          · go_wp2
            all_goals
              go_roundw
              case rel => exact ⟨j + 1, by omega, by go_num, by rw [HTT.out, htt, Bool.false_or]; exact congrArg Value.bool (fram_nat_ne (T j)), Lib.hid (by rw [HY0.out]; exact H5.out), Lib.hid (HB5.out _)⟩
              case measure => simp [intOf]; omega
          · go_wp2
            all_goals
              go_roundw
              case rel => exact ⟨j + 1, by omega, by go_num, by rw [HTT.out, htt, Bool.true_or], Lib.hid (by rw [HY0.out]; exact H5.out), Lib.hid (HB5.out _)⟩
              case measure => simp [intOf]; omega
        · obtain rfl : j = 4 := by omega
          have hopn := Fr.opn_burst HF.out.ok HF.out.wide q HQ.out (by rw [HF.out.wrap]; exact HQ4.out) T HT8.out
          rw [HF.out.wrap, HF.out.bare] at hopn
          have hyb := Crc.yto_lt L HF.out.lt q T HT8.out 4
          have hyl := Crc.yto_length L q T 4
          obtain ⟨D, hD⟩ : ∃ D, Crc.tto L.length q T 4 = D := ⟨_, rfl⟩
          obtain ⟨Y, hY⟩ : ∃ Y, Crc.yto L q T 4 = Y := ⟨_, rfl⟩
          rw [hD, hY] at hopn
          rw [hY] at hyb hyl HO4
          rw [hD]
          clear hD hY
          have CO : ∀ r, (if D = false then some M else none) = r → Hid (Calls Try.prog 22 #[.slice (some ⟨g1, 0, none⟩) L.length c1] wr (GotG w3 wr r)) := fun r hr => Lib.hid (fropen_is (hopn.trans hr) (by have := HL8.out; omega) hyb (own_cap HO4.out).1 (Rd.own_ HO4.out) HB4.out)
          clear hopn hyb hyl HO1 HB34 HQ HQ4 hq4 hq294
          cases D with
          | true =>
            have CO := CO none (by simp)
            go_upto_region 16 with (first
              | (go_at_call 22; refine (show Calls _ _ _ _ (GotG w3 wr none) from CO.out).mono ?_; rintro e w8 ⟨az, he, hoz, hBz, hbz⟩
                 obtain ⟨X, hX⟩ : ∃ x, ((none : Option Mg)).getD Mg.zero = x := ⟨_, rfl⟩
                 have he2 : e = .returned (.tuple #[.agg #[.int .i64 X.kind, .int .i64 X.frm, .int .i64 X.dst, .int .i64 X.view, .int .i64 X.inst, .int .i64 X.len, .bool X.has, .int .i64 X.mem, .int .i64 X.src, .int .i64 X.pos, .int .i64 X.tot, .slice az.Ad X.data.length az.cd, .int .i64 X.hop, .int .i64 X.seq, .slice az.Ah X.hav.length az.ch, .slice az.An X.nee.length az.cn, .int .i64 X.idx, .int .i64 X.ent.s, .int .i64 X.ent.q, .int .i64 X.ent.c.kind, .int .i64 X.ent.c.who, .slice az.c.Ak X.ent.c.key.length az.c.ck, .slice az.c.Av X.ent.c.val.length az.c.cv, .slice az.c.Ao X.ent.c.old.length az.c.co], .bool false]) := by rw [hX] at he; exact he
                 clear he
                 subst he2
                 have HB8 := Lib.hid hBz
                 have HZ8 := Lib.hid (Blk.new w8 29 #[.int .i64 0, .int .i64 0, .int .i64 0, .int .i64 0, .int .i64 0, .int .i64 0, .bool false, .int .i64 0, .int .i64 0, .int .i64 0, .int .i64 0, .slice none 0 0, .int .i64 0, .int .i64 0, .slice none 0 0, .slice none 0 0, .int .i64 0, .int .i64 0, .int .i64 0, .int .i64 0, .int .i64 0, .slice none 0 0, .slice none 0 0, .slice none 0 0])
                 clear hoz hBz hbz hX CO)
              | (refine wpList_store_row rfl 29 (.tmp 15) (.tmp 70) rfl w8.heap.size #[.int .i64 X.kind, .int .i64 X.frm, .int .i64 X.dst, .int .i64 X.view, .int .i64 X.inst, .int .i64 X.len, .bool X.has, .int .i64 X.mem, .int .i64 X.src, .int .i64 X.pos, .int .i64 X.tot, .slice az.Ad X.data.length az.cd, .int .i64 X.hop, .int .i64 X.seq, .slice az.Ah X.hav.length az.ch, .slice az.An X.nee.length az.cn, .int .i64 X.idx, .int .i64 X.ent.s, .int .i64 X.ent.q, .int .i64 X.ent.c.kind, .int .i64 X.ent.c.who, .slice az.c.Ak X.ent.c.key.length az.c.ck, .slice az.c.Av X.ent.c.val.length az.c.cv, .slice az.c.Ao X.ent.c.old.length az.c.co] rfl rfl 29 #[.int .i64 0, .int .i64 0, .int .i64 0, .int .i64 0, .int .i64 0, .int .i64 0, .bool false, .int .i64 0, .int .i64 0, .int .i64 0, .int .i64 0, .slice none 0 0, .int .i64 0, .int .i64 0, .slice none 0 0, .slice none 0 0, .int .i64 0, .int .i64 0, .int .i64 0, .int .i64 0, .int .i64 0, .slice none 0 0, .slice none 0 0, .slice none 0 0] HZ8.out (by kernel_rfl) rfl (by kernel_rfl) ?_)
              | fail)
            have b89 : Below w8.heap.size w8 ((w8.alloc (.cells #[.int .i64 0, .int .i64 0, .int .i64 0, .int .i64 0, .int .i64 0, .int .i64 0, .bool false, .int .i64 0, .int .i64 0, .int .i64 0, .int .i64 0, .slice none 0 0, .int .i64 0, .int .i64 0, .slice none 0 0, .slice none 0 0, .int .i64 0, .int .i64 0, .int .i64 0, .int .i64 0, .int .i64 0, .slice none 0 0, .slice none 0 0, .slice none 0 0] 29)).setRow w8.heap.size #[.int .i64 X.kind, .int .i64 X.frm, .int .i64 X.dst, .int .i64 X.view, .int .i64 X.inst, .int .i64 X.len, .bool X.has, .int .i64 X.mem, .int .i64 X.src, .int .i64 X.pos, .int .i64 X.tot, .slice az.Ad X.data.length az.cd, .int .i64 X.hop, .int .i64 X.seq, .slice az.Ah X.hav.length az.ch, .slice az.An X.nee.length az.cn, .int .i64 X.idx, .int .i64 X.ent.s, .int .i64 X.ent.q, .int .i64 X.ent.c.kind, .int .i64 X.ent.c.who, .slice az.c.Ak X.ent.c.key.length az.c.ck, .slice az.c.Av X.ent.c.val.length az.c.cv, .slice az.c.Ao X.ent.c.old.length az.c.co]) := below_setRow ((Below.refl _ _).alloc (Nat.le_refl _) _) (Nat.le_refl _) _
            have HBF := Lib.hid (HB.out.trans ((HB8.out.trans (b89.mono HB8.out.size)).mono HB.out.size))
            clear b89
            go_wp2_with (go_at_call 23; refine (framAwake _).mono ?_; rintro e w6 ⟨rfl, hB6⟩)
            go_ret
            exact ⟨rfl, HBF.out.trans (hB6.mono HBF.out.size)⟩
          | false =>
            have CO := CO (some M) (by simp)
            go_upto_region 16 with (first
              | (go_at_call 22; refine CO.out.mono ?_; rintro e w8 ⟨az, he, hoz, hBz, hbz⟩
                 obtain ⟨X, hX⟩ : ∃ x, (some M).getD Mg.zero = x := ⟨_, rfl⟩
                 have he2 : e = .returned (.tuple #[.agg #[.int .i64 X.kind, .int .i64 X.frm, .int .i64 X.dst, .int .i64 X.view, .int .i64 X.inst, .int .i64 X.len, .bool X.has, .int .i64 X.mem, .int .i64 X.src, .int .i64 X.pos, .int .i64 X.tot, .slice az.Ad X.data.length az.cd, .int .i64 X.hop, .int .i64 X.seq, .slice az.Ah X.hav.length az.ch, .slice az.An X.nee.length az.cn, .int .i64 X.idx, .int .i64 X.ent.s, .int .i64 X.ent.q, .int .i64 X.ent.c.kind, .int .i64 X.ent.c.who, .slice az.c.Ak X.ent.c.key.length az.c.ck, .slice az.c.Av X.ent.c.val.length az.c.cv, .slice az.c.Ao X.ent.c.old.length az.c.co], .bool true]) := by rw [hX] at he; exact he
                 clear he
                 subst he2
                 have HB8 := Lib.hid hBz
                 have HZ8 := Lib.hid (Blk.new w8 29 #[.int .i64 0, .int .i64 0, .int .i64 0, .int .i64 0, .int .i64 0, .int .i64 0, .bool false, .int .i64 0, .int .i64 0, .int .i64 0, .int .i64 0, .slice none 0 0, .int .i64 0, .int .i64 0, .slice none 0 0, .slice none 0 0, .int .i64 0, .int .i64 0, .int .i64 0, .int .i64 0, .int .i64 0, .slice none 0 0, .slice none 0 0, .slice none 0 0])
                 clear hoz hBz hbz hX CO)
              | (refine wpList_store_row rfl 29 (.tmp 15) (.tmp 70) rfl w8.heap.size #[.int .i64 X.kind, .int .i64 X.frm, .int .i64 X.dst, .int .i64 X.view, .int .i64 X.inst, .int .i64 X.len, .bool X.has, .int .i64 X.mem, .int .i64 X.src, .int .i64 X.pos, .int .i64 X.tot, .slice az.Ad X.data.length az.cd, .int .i64 X.hop, .int .i64 X.seq, .slice az.Ah X.hav.length az.ch, .slice az.An X.nee.length az.cn, .int .i64 X.idx, .int .i64 X.ent.s, .int .i64 X.ent.q, .int .i64 X.ent.c.kind, .int .i64 X.ent.c.who, .slice az.c.Ak X.ent.c.key.length az.c.ck, .slice az.c.Av X.ent.c.val.length az.c.cv, .slice az.c.Ao X.ent.c.old.length az.c.co] rfl rfl 29 #[.int .i64 0, .int .i64 0, .int .i64 0, .int .i64 0, .int .i64 0, .int .i64 0, .bool false, .int .i64 0, .int .i64 0, .int .i64 0, .int .i64 0, .slice none 0 0, .int .i64 0, .int .i64 0, .slice none 0 0, .slice none 0 0, .int .i64 0, .int .i64 0, .int .i64 0, .int .i64 0, .int .i64 0, .slice none 0 0, .slice none 0 0, .slice none 0 0] HZ8.out (by kernel_rfl) rfl (by kernel_rfl) ?_)
              | fail)
            have b89 : Below w8.heap.size w8 ((w8.alloc (.cells #[.int .i64 0, .int .i64 0, .int .i64 0, .int .i64 0, .int .i64 0, .int .i64 0, .bool false, .int .i64 0, .int .i64 0, .int .i64 0, .int .i64 0, .slice none 0 0, .int .i64 0, .int .i64 0, .slice none 0 0, .slice none 0 0, .int .i64 0, .int .i64 0, .int .i64 0, .int .i64 0, .int .i64 0, .slice none 0 0, .slice none 0 0, .slice none 0 0] 29)).setRow w8.heap.size #[.int .i64 X.kind, .int .i64 X.frm, .int .i64 X.dst, .int .i64 X.view, .int .i64 X.inst, .int .i64 X.len, .bool X.has, .int .i64 X.mem, .int .i64 X.src, .int .i64 X.pos, .int .i64 X.tot, .slice az.Ad X.data.length az.cd, .int .i64 X.hop, .int .i64 X.seq, .slice az.Ah X.hav.length az.ch, .slice az.An X.nee.length az.cn, .int .i64 X.idx, .int .i64 X.ent.s, .int .i64 X.ent.q, .int .i64 X.ent.c.kind, .int .i64 X.ent.c.who, .slice az.c.Ak X.ent.c.key.length az.c.ck, .slice az.c.Av X.ent.c.val.length az.c.cv, .slice az.c.Ao X.ent.c.old.length az.c.co]) := below_setRow ((Below.refl _ _).alloc (Nat.le_refl _) _) (Nat.le_refl _) _
            have HBF := Lib.hid (HB.out.trans ((HB8.out.trans (b89.mono HB8.out.size)).mono HB.out.size))
            clear b89
            go_wp2_with (go_at_call 23; refine (framAwake _).mono ?_; rintro e w6 ⟨rfl, hB6⟩)
            go_ret
            exact ⟨rfl, HBF.out.trans (hB6.mono HBF.out.size)⟩
theorem framBursts_walk (a0 : Int) (a1 : Int) (a2 : Int) (a3 : Int) (w : World) (w0 : (Lit.int .i64 a0).wf = true) (w1 : (Lit.int .i64 a1).wf = true) (w2 : (Lit.int .i64 a2).wf = true) (w3 : (Lit.int .i64 a3).wf = true) : Calls Try.prog 5 #[.int .i64 a0, .int .i64 a1, .int .i64 a2, .int .i64 a3] w fun e w' => e = .returned (.bool true) ∧ Below w.heap.size w w' := framBursts_raw a0 a1 a2 a3 w
end Go.Proofs.Ytlfkgpllleogoaa

