/- MachEncode BoxKit MachChk2 MachDecode -/
import Derived.Test.YtmekamgohonffaaGreatBQ24
import Derived.Test.YtmekamgohonffaaGreatBQ25
import Derived.Test.YtmekamgohonffaaGreatBQ38
import Derived.Test.YtmekamgohonffaaGreatBQ45
import Derived.Deep.MidRow
import Derived.Deep.RegionWith
import Derived.OwnWalk
import Derived.WalkLawsBesides
import Derived.WalkSpells
import Derived.Deep.CutBlock
namespace Go.Proofs.YtmekamgohonffaaGreat
open Go.RowKit
set_option linter.unusedVariables false
set_option maxHeartbeats 4000000 in
set_option maxRecDepth 100000 in
theorem encode_raw {w : World} {a : MA} {m : Mc} {B : Nat} (hM : m.Ok) (h : RdM w B a m) : Calls Tryz.prog 33 #[machV a m] w (GotIn w w m.enc) := by
  obtain ⟨wz, hwz⟩ : ∃ wz, w.alloc (.cells (machC a m) 31) = wz := ⟨_, rfl⟩
  have hbz : Below w.heap.size w wz := by rw [← hwz]; exact (Below.refl _ _).alloc (Nat.le_refl _) _
  have hkz : Blk wz w.heap.size 31 (machC a m) := by rw [← hwz]; exact Blk.new _ _ _
  have HR := Lib.hid ((h.fit.below hbz).fit)
  have HZ := Lib.hid hbz
  have HM := Lib.hid hM
  obtain ⟨g, hg⟩ : ∃ g, w.heap.size = g := ⟨_, rfl⟩
  rw [hg] at hkz
  have HF : Hid (∀ wx, Below wz.heap.size wz wx → Blk wx g 31 (machC a m)) := Lib.hid (fun wx hb => hkz.below hb)
  have HW := Lib.hid hwz
  have HG := Lib.hid hg
  have k1 := encB_length m.o.reg
  have k2 := encQ_length hM.o.qv
  have k3 := Pk.encs_length m.o.lk
  have k4 := encP_length hM.o.mp.len
  have k5 := encN_length m.o.q.length
  have k6 := encN_length m.o.lk.length
  have k7 := encN_length m.o.mp.length
  have k8 := hM.o.reg
  have k9 := hM.o.ql
  have k10 := hM.o.lkl
  have k11 := hM.o.mp.few
  obtain ⟨l1, e1⟩ : ∃ x, Pk.encB m.o.reg = x := ⟨_, rfl⟩
  obtain ⟨l2, e2⟩ : ∃ x, l1 ++ (encN m.o.q.length ++ encQ m.o.q) = x := ⟨_, rfl⟩
  obtain ⟨l3, e3⟩ : ∃ x, l2 ++ (encN m.o.lk.length ++ Pk.encs m.o.lk) = x := ⟨_, rfl⟩
  obtain ⟨l4, e4⟩ : ∃ x, l3 ++ (encN m.o.mp.length ++ encP m.o.mp) = x := ⟨_, rfl⟩
  obtain ⟨l5, e5⟩ : ∃ x, l4 ++ (encN m.t.length ++ encT m.t) = x := ⟨_, rfl⟩
  have hl1 : l1.length ≤ 100 := by rw [← e1]; omega
  have hl2 : l2.length ≤ 1000 := by rw [← e2]; simp only [List.length_append]; omega
  have hl3 : l3.length ≤ 2000 := by rw [← e3]; simp only [List.length_append]; omega
  have hl4 : l4.length ≤ 3000 := by rw [← e4]; simp only [List.length_append]; omega
  have hEND : m.enc = l5 := by
    unfold Mc.enc; rw [← e5, ← e4, ← e3, ← e2, ← e1]; simp only [List.append_assoc]
  rw [hEND]
  have C1 : Hid (Calls Tryz.prog 69 #[.slice none 0 0, .slice a.o.A0 m.o.reg.length a.o.c0] wz (GotPut wz wz l1)) := Lib.hid ((putBytes_any (W := wz) (w := wz) (l := []) (x := m.o.reg) (by simp) (by omega) (own_nil _ _) HR.out.o.r0 (Below.refl _ _)).mono fun e w' h => h.is (by rw [← e1]; rfl))
  have C2 : Hid (∀ {wx : World} {A : Option Addr} {c : Nat}, OwnB wz wx A l1.length c l1 → Below wz.heap.size wz wx → Calls Tryz.prog 70 #[.slice A l1.length c, .slice a.o.A1 m.o.q.length a.o.c1, .func (.func 69) #[] #[]] wx (GotPut wz wx l2)) := Lib.hid (fun ho hB => (putEachQ_any (W := wz) (c' := a.o.c1) (by omega) (by omega) hM.o.qv ho HR.out.o.r1 hB).mono fun e w' h => h.is e2)
  have C3 : Hid (∀ {wx : World} {A : Option Addr} {c : Nat}, OwnB wz wx A l2.length c l2 → Below wz.heap.size wz wx → Calls Tryz.prog 71 #[.slice A l2.length c, .slice a.o.A2 m.o.lk.length a.o.c2, .func (.func 72) #[] #[]] wx (GotPut wz wx l3)) := Lib.hid (fun ho hB => (putEachI_any (W := wz) (c' := a.o.c2) (by omega) (by omega) ho HR.out.o.r2 hB).mono fun e w' h => h.is e3)
  have C4 : Hid (∀ {wx : World} {A : Option Addr} {c : Nat}, OwnB wz wx A l3.length c l3 → Below wz.heap.size wz wx → Calls Tryz.prog 73 #[.slice A l3.length c, .slice a.o.A3 m.o.mp.length a.o.c3, .func (.func 74) #[] #[]] wx (GotPut wz wx l4)) := Lib.hid (fun ho hB => (putEachP_any (W := wz) (c' := a.o.c3) (by omega) (by omega) hM.o.mp.len ho HR.out.o.r3 hB).mono fun e w' h => h.is e4)
  have C5 : Hid (∀ {wx : World} {A : Option Addr} {c : Nat}, OwnB wz wx A l4.length c l4 → Below wz.heap.size wz wx → Calls Tryz.prog 75 #[.slice A l4.length c, .slice a.At m.t.length a.ct, .func (.func 76) #[] #[]] wx (GotPut wz wx l5)) := Lib.hid (fun ho hB => (putEachT_any (W := wz) (c' := a.ct) (by omega) (by have := hM.t8; omega) (fun m' hm' => (hM.t.each m' hm').2.1) (fun m' hm' => (hM.te m' hm').2.2) ho HR.out.t hB).mono fun e w' h => h.is e5)
  clear k1 k2 k3 k4 k5 k6 k7 k8 k9 k10 k11 e1 e2 e3 e4 e5 hl1 hl2 hl3 hl4 hEND h hM hbz hkz hwz hg
  unfold machV machC
  unfold machC at HW HF
  go_enter Tryz.func33, Tryz.ntmps33
  go_upto_region 1 with fail
  rw [HG.out, HW.out]
  obtain ⟨x0, x1, x2, x3, x4⟩ := five (HF.out wz (Below.refl _ _))
  go_wp2_with (first
    | (go_at_call 69; refine C1.out.mono ?_; rintro e w1 ⟨A1, c1, rfl, ho1, hB1, hb1⟩; obtain ⟨x0, x1, x2, x3, x4⟩ := five (HF.out w1 hB1))
    | (go_at_call 70; refine (C2.out ho1 hB1).mono ?_; rintro e w2 ⟨A2, c2, rfl, ho2, hB2, hb2⟩; obtain ⟨x0, x1, x2, x3, x4⟩ := five (HF.out w2 hB2))
    | (go_at_call 71; refine (C3.out ho2 hB2).mono ?_; rintro e w3 ⟨A3, c3, rfl, ho3, hB3, hb3⟩; obtain ⟨x0, x1, x2, x3, x4⟩ := five (HF.out w3 hB3))
    | (go_at_call 73; refine (C4.out ho3 hB3).mono ?_; rintro e w4 ⟨A4, c4, rfl, ho4, hB4, hb4⟩; obtain ⟨x0, x1, x2, x3, x4⟩ := five (HF.out w4 hB4))
    | (go_at_call 75; refine (C5.out ho4 hB4).mono ?_; rintro e w5 ⟨A5, c5, rfl, ho5, hB5, hb5⟩)
    | fail)
  go_ret
  have hb := HZ.out.trans (hB5.mono HZ.out.size)
  exact ⟨A5, c5, rfl, own_of HZ.out.size ho5, hb, hb⟩
theorem encode10 : EncodeC10 := fun hM h hB => (encode_raw hM h).mono fun en w' ⟨A', c', h1, h2, h3, h4⟩ => ⟨A', c', h1, own_of hB.size h2, hB.trans (h3.mono hB.size), h4⟩
end Go.Proofs.YtmekamgohonffaaGreat

namespace Go.Proofs.YtmekamgohonffaaGreat
open Go.RowKit
set_option linter.unusedVariables false
theorem boxed (w : World) (Z R : Array Value) (T : TypeId) : ∃ g w2, w.heap.size = g ∧ (w.alloc (.cells Z T)).setRow g R = w2 ∧ Below w.heap.size w w2 ∧ Blk w2 g T R :=
  ⟨_, _, rfl, rfl, below_setRow ((Below.refl _ _).alloc (Nat.le_refl _) _) (Nat.le_refl _) _, (Blk.new _ _ _).row _⟩
theorem alloced (w : World) (R : Array Value) (T : TypeId) : ∃ g w2, w.heap.size = g ∧ w.alloc (.cells R T) = w2 ∧ Below w.heap.size w w2 ∧ Blk w2 g T R :=
  ⟨_, _, rfl, rfl, (Below.refl _ _).alloc (Nat.le_refl _) _, Blk.new _ _ _⟩
/-- a row loaded under a guard that is known -/
theorem wpList_load_rowV {P : Program} {ops : Array Oper} {rest : List Oper} {o : Oper} {a : Act} {w : World} {Q : Exit → Act → World → Prop} (hgd : Region.wanted o (yielded ops a.tmps) = true) (ty : TypeId) (x : Operand) (ho : o.op = .load ty x)
    (g : Nat) (hx : a.eval x = .pointer (some ⟨g, 0, none⟩)) (t : TypeId) (cs : Array Value) (fr : Nat × Nat) (d : TypeDesc) (hg : w.heap[g]? = some (.cells cs t fr))
    (hu : P.underlying ty = some d) (hd : (match d with | .struct _ | .array _ _ => true | _ => false) = true) (hi : (P.info? ty).map (·.size) = some cs.size)
    (h : wpList P ops Q rest (a.put o.dst (.agg cs)) w) : wpList P ops Q (o :: rest) a w := by
  unfold wpList
  rw [if_pos hgd]
  exact Or.inl (wp_load_row ty x ho g hx t cs fr d hg hu hd hi h)
/-- cells loaded out of a block's middle under a guard that is known -/
theorem wpList_load_midV {P : Program} {ops : Array Oper} {rest : List Oper} {o : Oper} {a : Act} {w : World} {Q : Exit → Act → World → Prop} (hgd : Region.wanted o (yielded ops a.tmps) = true) (ty : TypeId) (x : Operand) (ho : o.op = .load ty x)
    (b k : Nat) (hx : a.eval x = .pointer (some ⟨b, k, none⟩)) (cs : List Value) (d : TypeDesc) (hc : w.rangeAt b k cs)
    (hu : P.underlying ty = some d) (hd : d.isRow = true) (hi : (P.info? ty).map (·.size) = some cs.length)
    (h : wpList P ops Q rest (a.put o.dst (.agg cs.toArray)) w) : wpList P ops Q (o :: rest) a w := by
  unfold wpList
  rw [if_pos hgd]
  exact Or.inl (wp_load_mid ty x ho b k hx cs d hc hu hd hi h)
end Go.Proofs.YtmekamgohonffaaGreat

namespace Go.Proofs.YtmekamgohonffaaGreat
open Go.RowKit
set_option linter.unusedVariables false
set_option maxRecDepth 100000 in
theorem badL_any (w : World) {A : Option Addr} {c : Nat} (l : Ls) :
    Calls Tryz.prog 95 #[.agg #[.int .i64 l.s, .int .i64 l.q, .int .i64 l.e, .slice A l.v.length c, .int .i64 l.n]] w fun e w' => e = .returned (.bool (decide (l.s < 1 ∨ l.q < 1))) ∧ Below w.heap.size w w' := by
  have b0 : Below w.heap.size w (w.alloc (.cells #[.int .i64 l.s, .int .i64 l.q, .int .i64 l.e, .slice A l.v.length c, .int .i64 l.n] 79)) := (Below.refl _ _).alloc (Nat.le_refl _) _
  have HB := Lib.hid b0
  have HK := Lib.hid (Blk.new w 79 #[.int .i64 l.s, .int .i64 l.q, .int .i64 l.e, .slice A l.v.length c, .int .i64 l.n])
  clear b0
  by_cases h1 : l.s < 1
  · rw [decide_eq_true (Or.inl h1)]
    go_enter Tryz.func95, Tryz.ntmps95
    go_upto_region 1 with fail
    generalize w.alloc (.cells #[.int .i64 l.s, .int .i64 l.q, .int .i64 l.e, .slice A l.v.length c, .int .i64 l.n] 79) = wa at HB HK ⊢
    obtain ⟨x0, x1, _, _, _⟩ := five HK.out
    go_wp2_with fail
    go_ret
    exact ⟨rfl, HB.out⟩
  · by_cases h2 : l.q < 1
    · rw [decide_eq_true (Or.inr h2)]
      go_enter Tryz.func95, Tryz.ntmps95
      go_upto_region 1 with fail
      generalize w.alloc (.cells #[.int .i64 l.s, .int .i64 l.q, .int .i64 l.e, .slice A l.v.length c, .int .i64 l.n] 79) = wa at HB HK ⊢
      obtain ⟨x0, x1, _, _, _⟩ := five HK.out
      go_wp2_with fail
      go_ret
      exact ⟨rfl, HB.out⟩
    · rw [decide_eq_false (by omega)]
      go_enter Tryz.func95, Tryz.ntmps95
      go_upto_region 1 with fail
      generalize w.alloc (.cells #[.int .i64 l.s, .int .i64 l.q, .int .i64 l.e, .slice A l.v.length c, .int .i64 l.n] 79) = wa at HB HK ⊢
      obtain ⟨x0, x1, _, _, _⟩ := five HK.out
      go_wp2_with fail
      go_ret
      exact ⟨rfl, HB.out⟩
set_option maxHeartbeats 1000000 in
theorem indexFuncT_any (w : World) {n c B : Nat} {A : Option Addr} {ls : List Ls} (hn : n ≤ 100000) (h : RdL w B A n ls) :
    Calls Tryz.prog 119 #[.slice A n c, .func (.func 95) #[] #[]] w fun e w' => (∃ z : Int, e = .returned (.int .i64 z) ∧ (0 ≤ z ↔ ∃ l ∈ ls, l.s < 1 ∨ l.q < 1)) ∧ Below w.heap.size w w' := by
  obtain rfl := h.length
  have H := Lib.hid h.fit
  clear h
  go_enter Tryz.func119, Tryz.ntmps119
  go_wp2_with fail
  go_loopw [5, 8] (fun s5 s8 wr => ∃ j : Nat, j ≤ ls.length ∧ s8 = .int .i64 j ∧ Hid (∀ (i : Nat) (m : Ls), i < j → ls[i]? = some m → ¬ (m.s < 1 ∨ m.q < 1)) ∧ Hid (Below w.heap.size w wr)) (fun _ s8 _ => ls.length - (intOf s8).toNat)
  case atStart => exact ⟨0, Nat.zero_le _, rfl, Lib.hid (fun i m hi => absurd hi (by omega)), Lib.hid (Below.refl _ _)⟩
  case round =>
    obtain ⟨j, hj, rfl, HS, HB0⟩ := hrel
    by_cases hlt : j < ls.length
    · obtain ⟨b, o, l, A1, c1, rfl, hl, y0, y1, y2, y3, y4, hrd⟩ := ((H.out.below HB0.out).fit).at hlt
      have HP := Lib.hid hl
      clear hl hrd
      by_cases he : l.s < 1 ∨ l.q < 1
      · have HE := Lib.hid he
        have HD := Lib.hid (decide_eq_true he)
        clear he
        go_wp2_with (first
          | (go_at_call 95; refine (badL_any _ _).mono ?_; rw [HD.out]; rintro e w2 ⟨rfl, hb2⟩)
          | fail)
        go_ret
        exact ⟨⟨(j : Int), rfl, ⟨fun _ => ⟨l, List.mem_of_getElem? HP.out, HE.out⟩, fun _ => by omega⟩⟩, HB0.out.trans (hb2.mono HB0.out.size)⟩
      · have HE := Lib.hid he
        have HD := Lib.hid (decide_eq_false he)
        clear he
        go_wp2_with (first
          | (go_at_call 95; refine (badL_any _ _).mono ?_; rw [HD.out]; rintro e w2 ⟨rfl, hb2⟩)
          | fail)
        go_roundw
        case rel =>
          refine ⟨j + 1, by omega, by go_num, Lib.hid (fun i m hi hm => ?_), Lib.hid (HB0.out.trans (hb2.mono HB0.out.size))⟩
          rcases Nat.lt_or_ge i j with h1 | h1
          · exact HS.out i m h1 hm
          · obtain rfl : i = j := by omega
            rw [HP.out] at hm
            injection hm with hm
            subst hm
            exact HE.out
        case measure => simp [intOf]; omega
    · obtain rfl : j = ls.length := by omega
      go_wp2_with fail
      go_ret
      refine ⟨⟨-1, rfl, ⟨fun h => absurd h (by omega), ?_⟩⟩, HB0.out⟩
      rintro ⟨l, hl, hbad⟩
      obtain ⟨i, hi, e⟩ := List.getElem_of_mem hl
      exact absurd hbad (HS.out i l hi (by rw [List.getElem?_eq_getElem hi, e]))
theorem containsFuncT_any (w : World) {n c B : Nat} {A : Option Addr} {ls : List Ls} (hn : n ≤ 100000) (h : RdL w B A n ls) :
    Calls Tryz.prog 94 #[.slice A n c, .func (.func 95) #[] #[]] w fun e w' => e = .returned (.bool (decide (∃ l ∈ ls, l.s < 1 ∨ l.q < 1))) ∧ Below w.heap.size w w' := by
  have HC := Lib.hid (indexFuncT_any w (c := c) hn h)
  clear h
  obtain ⟨D, hD⟩ : ∃ D : Bool, decide (∃ l ∈ ls, l.s < 1 ∨ l.q < 1) = D := ⟨_, rfl⟩
  have HD : Hid (D = true ↔ ∃ l ∈ ls, l.s < 1 ∨ l.q < 1) := Lib.hid (by rw [← hD]; exact decide_eq_true_iff)
  rw [hD]
  clear hD
  go_enter Tryz.func94, Tryz.ntmps94
  go_wp2_with (first
    | (go_at_call 119; refine HC.out.mono ?_; rintro e w2 ⟨⟨z, rfl, hz⟩, hb2⟩; have HZ := Lib.hid hz; have HB := Lib.hid hb2; clear hz hb2 HC)
    | fail)
  go_ret
  refine ⟨ret_bool ?_, HB.out⟩
  rw [Bool.eq_iff_iff]
  rw [HD.out, ← HZ.out]
  simp
/-- a table that was read, within its bounds -/
theorem okT_of {ls : List Ls} (hb : ∀ l ∈ ls, l.s ≤ 1073741824 ∧ l.q ≤ 1073741824) : okT ls = (chainB (fun a b : Ls => decide (a.s < b.s)) ls && !decide (∃ l ∈ ls, l.s < 1 ∨ l.q < 1)) := by
  unfold okT
  rw [Bool.and_comm]
  congr 1
  rw [Bool.eq_iff_iff]
  simp only [List.all_eq_true, decide_eq_true_eq, Bool.not_eq_true', decide_eq_false_iff_not, not_exists, not_and]
  constructor
  · intro h l hl hbad
    have := h l hl
    unfold Tb.named at this
    omega
  · intro h l hl
    have h1 := h l hl
    have h2 := hb l hl
    unfold Tb.named
    omega
theorem isTable_any (w : World) {n c B : Nat} {A : Option Addr} {ls : List Ls} (hb : ∀ l ∈ ls, l.s ≤ 1073741824 ∧ l.q ≤ 1073741824) (hn : n ≤ 1000) (h : RdL w B A n ls) :
    Calls Tryz.prog 65 #[.slice A n c] w fun e w' => e = .returned (.bool (okT ls)) ∧ Below w.heap.size w w' := by
  rw [okT_of hb]
  have H := Lib.hid h.fit
  have HR := Lib.hid (isRisingT_any w (c := c) h hn)
  have HC : Hid (∀ wx, Below w.heap.size w wx → Calls Tryz.prog 94 #[.slice A n c, .func (.func 95) #[] #[]] wx fun e w' => e = .returned (.bool (decide (∃ l ∈ ls, l.s < 1 ∨ l.q < 1))) ∧ Below wx.heap.size wx w') :=
    Lib.hid (fun wx hb => containsFuncT_any wx (by omega) (h.fit.below hb))
  clear h hb
  obtain ⟨D, hD⟩ : ∃ D : Bool, decide (∃ l ∈ ls, l.s < 1 ∨ l.q < 1) = D := ⟨_, rfl⟩
  obtain ⟨C, hC⟩ : ∃ C : Bool, chainB (fun a b : Ls => decide (a.s < b.s)) ls = C := ⟨_, rfl⟩
  rw [hD] at HC ⊢
  rw [hC] at HR ⊢
  clear hD hC
  cases C with
  | false =>
    go_enter Tryz.func65, Tryz.ntmps65
    go_wp2_with (first
      | (go_at_call 92; refine HR.out.mono ?_; rintro e w2 ⟨rfl, hb2⟩)
      | fail)
    go_ret
    exact ⟨rfl, hb2⟩
  | true =>
    go_enter Tryz.func65, Tryz.ntmps65
    go_wp2_with (first
      | (go_at_call 92; refine HR.out.mono ?_; rintro e w2 ⟨rfl, hb2⟩)
      | (go_at_call 94; refine (HC.out _ hb2).mono ?_; rintro e w3 ⟨rfl, hb3⟩)
      | fail)
    go_ret
    exact ⟨rfl, hb2.trans (hb3.mono hb2.size)⟩
end Go.Proofs.YtmekamgohonffaaGreat

namespace Go.Proofs.YtmekamgohonffaaGreat
open Go.RowKit
set_option linter.unusedVariables false
/-- a machine that is being read: the answer's variable, the machine's, its rows, the reader -/
structure DcSt (w w1 wx : World) (rb g2 : Nat) (a : MA) (m : Mc) (s : Pk.St) : Prop where
  res : Blk wx w.heap.size 31 #[.slice none 0 0, .slice none 0 0, .slice none 0 0, .slice none 0 0, .slice none 0 0]
  blk : Blk wx g2 31 (machC a m)
  own : OwnM w1 wx a m
  rd : RgSt w1 wx rb s
section
variable {w w1 wx wy : World} {rb g2 : Nat} {a : MA} {m : Mc} {s s' : Pk.St}
theorem DcSt.call (h : DcSt w w1 wx rb g2 a m s) (hb : rb < w1.heap.size) (h0 : w.heap.size ≠ rb) (h2 : g2 ≠ rb) (hr : RdrAt wy rb s') (ho : Only rb wx wy) : DcSt w w1 wy rb g2 a m s' :=
  ⟨h.res.grown ho (by simpa using h0), h.blk.grown ho (by simpa using h2), h.own.old ho (Old.some hb), h.rd.call hr ho⟩
theorem DcSt.put {a' : MA} {m' : Mc} {i : Nat} {u : Value} (h : DcSt w w1 wx rb g2 a m s) (ho : OwnM w1 wx a' m') (h0 : w.heap.size ≠ g2) (hg : w1.heap.size ≤ g2) (hc : (machC a m).setIfInBounds i u = machC a' m') : DcSt w w1 (wx.setCell ⟨g2, i, none⟩ u) rb g2 a' m' s :=
  ⟨h.res.set_other h0, hc ▸ h.blk.set_ i u, ho.set_t h.blk (by decide) (by decide) (by decide) (by decide) (by decide), h.rd.set h.blk (by decide) (by decide) hg⟩
end
/-- the answer's variable is written -/
theorem dec_end {w wx : World} (hk : Blk wx w.heap.size 31 #[.slice none 0 0, .slice none 0 0, .slice none 0 0, .slice none 0 0, .slice none 0 0]) (hB : Below w.heap.size w wx) {a : MA} {m : Mc} (ho : OwnM w wx a m) :
    let wy := (((((wx.setCell ⟨w.heap.size, 0, none⟩ (.slice a.o.A0 m.o.reg.length a.o.c0)).setCell ⟨w.heap.size, 1, none⟩ (.slice a.o.A1 m.o.q.length a.o.c1)).setCell ⟨w.heap.size, 2, none⟩ (.slice a.o.A2 m.o.lk.length a.o.c2)).setCell ⟨w.heap.size, 3, none⟩ (.slice a.o.A3 m.o.mp.length a.o.c3)).setCell ⟨w.heap.size, 4, none⟩ (.slice a.At m.t.length a.ct))
    Blk wy w.heap.size 31 (machC a m) ∧ OwnM w wy a m ∧ Below w.heap.size w wy := by
  intro wy
  obtain ⟨k1, k2, k3, _, _⟩ := put5 hk (.slice a.o.A0 m.o.reg.length a.o.c0) (.slice a.o.A1 m.o.q.length a.o.c1) (.slice a.o.A2 m.o.lk.length a.o.c2) (.slice a.o.A3 m.o.mp.length a.o.c3) (.slice a.At m.t.length a.ct)
  exact ⟨k1, k3 w a m ho (by decide) (by decide) (by decide) (by decide) (by decide), k2 w (Nat.le_refl _) hB⟩
set_option maxHeartbeats 8000000 in
set_option maxRecDepth 100000 in
theorem decode_raw {w : World} {A : Option Addr} {n c B : Nat} {l : List Nat} (hl : l.length ≤ 100000) (hb : ∀ x ∈ l, x < 256) (h : Rd w B A n (bv l)) :
    Calls Tryz.prog 26 #[.slice A n c] w (GotMB w w (Mc.dec l)) := by
  obtain rfl := h.length
  have HN := Lib.hid (Mc.get_near (s := some l) (fun l' hl' => by injection hl' with hl'; subst hl'; exact hb))
  have HDEC : Hid (Mc.dec l = if (Mc.get (some l)).1.wf = true ∧ (Mc.get (some l)).2 = some [] then some (Mc.get (some l)).1 else none) := Lib.hid rfl
  obtain ⟨R, hR⟩ : ∃ R, Mc.dec l = R := ⟨_, rfl⟩
  rw [hR] at HDEC ⊢
  -- the names of what is read
  obtain ⟨v0, d0⟩ : ∃ x, Pk.bytV (some l) 16 = x := ⟨_, rfl⟩
  obtain ⟨s1, e1⟩ : ∃ x, Pk.bytS (some l) 16 = x := ⟨_, rfl⟩
  obtain ⟨qs, d1⟩ : ∃ x, (stQ s1).1 = x := ⟨_, rfl⟩
  obtain ⟨s2, e2⟩ : ∃ x, (stQ s1).2 = x := ⟨_, rfl⟩
  obtain ⟨zs, d2⟩ : ∃ x, (stI s2).1 = x := ⟨_, rfl⟩
  obtain ⟨s3, e3⟩ : ∃ x, (stI s2).2 = x := ⟨_, rfl⟩
  obtain ⟨ps, d3⟩ : ∃ x, (stP s3).1 = x := ⟨_, rfl⟩
  obtain ⟨s4, e4⟩ : ∃ x, (stP s3).2 = x := ⟨_, rfl⟩
  obtain ⟨ts, d4⟩ : ∃ x, (stT s4).1 = x := ⟨_, rfl⟩
  obtain ⟨s5, e5⟩ : ∃ x, (stT s4).2 = x := ⟨_, rfl⟩
  have HGET : Hid (Mc.get (some l) = (⟨⟨v0, qs, zs, ps⟩, ts⟩, s5)) := Lib.hid (by
    unfold Mc.get getO
    simp only [d0, e1, d1, e2, d2, e3, d3, e4, d4, e5])
  rw [HGET.out] at HN HDEC
  simp only [] at HN HDEC
  have C0 := Lib.hid (fun w rb h => getVal_any w rb (some l) h d0 e1)
  have C1 := Lib.hid (fun w rb h => getEachQ_any w rb s1 (most := 8) (by omega) (by omega) h d1 e2)
  have C2 := Lib.hid (fun w rb h => getEachI_any w rb s2 (most := 5) (by omega) (by omega) h d2 e3)
  have C3 := Lib.hid (fun w rb h => getEachP_any w rb s3 (most := 8) (by omega) (by omega) h d3 e4)
  have C4 := Lib.hid (fun w rb h => getEachT_any w rb s4 (most := 8) (by omega) (by omega) h d4 e5)
  have k1 : zs.length ≤ 5 := HN.out.ll
  have k2 : ps.length ≤ 8 := HN.out.ml
  have k3 : ts.length ≤ 8 := HN.out.tl
  clear d0 e1 d1 e2 d2 e3 d3 e4 d4 e5 hR HGET
  have HREAD : Hid (∀ wx, Below w.heap.size w wx → Calls Tryz.prog 24 #[.slice A l.length c] wx fun e w' => ∃ b, e = .returned (.pointer (some ⟨b, 0, none⟩)) ∧ RdrAt w' b (some l) ∧ wx.heap.size ≤ b ∧ Below wx.heap.size wx w') :=
    Lib.hid (fun wx hbx => (read_in (W := wx) (c := c) (by unfold Lim; omega) hb (h.fit.below hbx) (Below.refl _ _)).mono fun e w' ⟨b, h1, h2, h3, h4, h5, h6⟩ => ⟨b, h1, h2, h4, h6⟩)
  have HB0 : Hid (Below w.heap.size w (w.alloc (.cells #[.slice none 0 0, .slice none 0 0, .slice none 0 0, .slice none 0 0, .slice none 0 0] 31))) := Lib.hid ((Below.refl _ _).alloc (Nat.le_refl _) _)
  have HK0 := Lib.hid (Blk.new w 31 #[.slice none 0 0, .slice none 0 0, .slice none 0 0, .slice none 0 0, .slice none 0 0])
  clear h hb hl
  go_enter Tryz.func26, Tryz.ntmps26
  go_upto_region 3 with (first
    | (go_at_call 24; refine (HREAD.out _ HB0.out).mono ?_; rintro en w1 ⟨rb, rfl, hr1, hrb, hb1⟩)
    | fail)
  have hsz : w.heap.size + 1 ≤ rb := by simpa using hrb
  have hlt1 : rb < w1.heap.size := hr1.lt
  have HB1 : Hid (Below w.heap.size w w1) := Lib.hid (HB0.out.trans (hb1.mono HB0.out.size))
  have bb : Below w1.heap.size w1 (w1.alloc (.cells #[.slice none 0 0, .slice none 0 0, .slice none 0 0, .slice none 0 0, .slice none 0 0] 31)) := (Below.refl _ _).alloc (Nat.le_refl _) _
  have HD : Hid (DcSt w w1 (w1.alloc (.cells #[.slice none 0 0, .slice none 0 0, .slice none 0 0, .slice none 0 0, .slice none 0 0] 31)) rb w1.heap.size ⟨⟨none, 0, none, 0, none, 0, none, 0⟩, none, 0⟩ Mc.zero (some l)) :=
    Lib.hid ⟨(HK0.out.below hb1).below bb, Blk.new _ _ _, OwnM.zero _ _, ⟨hr1.below bb, only_below (only_refl rb w1) bb (Nat.le_refl _)⟩⟩
  obtain ⟨g2, hg2⟩ : ∃ x, w1.heap.size = x := ⟨_, rfl⟩
  rw [hg2] at HD
  rw [hg2]
  have HG2 : Hid (w1.heap.size ≤ g2) := Lib.hid (by omega)
  have HN0 : Hid (w.heap.size ≠ rb) := Lib.hid (by omega)
  have HN2 : Hid (g2 ≠ rb) := Lib.hid (by omega)
  have HN1 : Hid (w.heap.size ≠ g2) := Lib.hid (by omega)
  have HRB : Hid (rb < w1.heap.size) := Lib.hid hlt1
  have HRW : Hid (w.heap.size ≤ rb) := Lib.hid (by omega)
  have HZ1 : Hid (w.heap.size ≤ w1.heap.size) := Lib.hid (by omega)
  clear hr1 hrb hb1 bb hsz hlt1 hg2 HREAD HB0 HK0
  generalize w1.alloc (.cells #[.slice none 0 0, .slice none 0 0, .slice none 0 0, .slice none 0 0, .slice none 0 0] 31) = wx0 at HD ⊢
  have HDX := HD
  go_upto_region 4 with (first
    | (go_at_call 54; refine (C0.out _ _ HD.out.rd.r).mono ?_; rintro en w2 ⟨A0, c0, rfl, hv, hr, ho⟩
       have HDC := Lib.hid (HD.out.call HRB.out HN0.out HN2.out hr ho)
       have HOW : Hid (OwnM w1 w2 ⟨⟨A0, c0, none, 0, none, 0, none, 0⟩, none, 0⟩ ⟨⟨v0, [], [], []⟩, []⟩) := Lib.hid ⟨⟨own_of HDX.out.rd.size hv, HDC.out.own.o.o1, HDC.out.own.o.o2, HDC.out.own.o.o3⟩, HDC.out.own.t⟩
       obtain ⟨x0, x1, x2, x3, x4⟩ := five HDC.out.blk
       obtain ⟨f0, f1, f2, f3, f4⟩ := five_frozen HDC.out.blk
       clear hv hr ho C0)
    | fail)
  have HD : Hid (DcSt w w1 (w2.setCell ⟨g2, 0, none⟩ (.slice A0 v0.length c0)) rb g2 ⟨⟨A0, c0, none, 0, none, 0, none, 0⟩, none, 0⟩ ⟨⟨v0, [], [], []⟩, []⟩ s1) := Lib.hid (HDC.out.put HOW.out HN1.out HG2.out rfl)
  clear HDC HOW HDX x0 x1 x2 x3 x4 f0 f1 f2 f3 f4
  generalize w2.setCell ⟨g2, 0, none⟩ (.slice A0 v0.length c0) = wx1 at HD ⊢
  have HDX := HD
  go_upto_region 5 with (first
    | (go_at_call 55; refine (C1.out _ _ HD.out.rd.r).mono ?_; rintro en w2 ⟨A1, c1, rfl, hv, hr, ho⟩
       have HDC := Lib.hid (HD.out.call HRB.out HN0.out HN2.out hr ho)
       have HOW : Hid (OwnM w1 w2 ⟨⟨A0, c0, A1, c1, none, 0, none, 0⟩, none, 0⟩ ⟨⟨v0, qs, [], []⟩, []⟩) := Lib.hid ⟨⟨HDC.out.own.o.o0, hv.of HDX.out.rd.size, HDC.out.own.o.o2, HDC.out.own.o.o3⟩, HDC.out.own.t⟩
       obtain ⟨x0, x1, x2, x3, x4⟩ := five HDC.out.blk
       obtain ⟨f0, f1, f2, f3, f4⟩ := five_frozen HDC.out.blk
       clear hv hr ho C1)
    | fail)
  have HD : Hid (DcSt w w1 (w2.setCell ⟨g2, 1, none⟩ (.slice A1 qs.length c1)) rb g2 ⟨⟨A0, c0, A1, c1, none, 0, none, 0⟩, none, 0⟩ ⟨⟨v0, qs, [], []⟩, []⟩ s2) := Lib.hid (HDC.out.put HOW.out HN1.out HG2.out rfl)
  clear HDC HOW HDX x0 x1 x2 x3 x4 f0 f1 f2 f3 f4
  generalize w2.setCell ⟨g2, 1, none⟩ (.slice A1 qs.length c1) = wx2 at HD ⊢
  have HDX := HD
  go_upto_region 6 with (first
    | (go_at_call 56; refine (C2.out _ _ HD.out.rd.r).mono ?_; rintro en w2 ⟨A2, c2, rfl, hv, hr, ho⟩
       have HDC := Lib.hid (HD.out.call HRB.out HN0.out HN2.out hr ho)
       have HOW : Hid (OwnM w1 w2 ⟨⟨A0, c0, A1, c1, A2, c2, none, 0⟩, none, 0⟩ ⟨⟨v0, qs, zs, []⟩, []⟩) := Lib.hid ⟨⟨HDC.out.own.o.o0, HDC.out.own.o.o1, own_of HDX.out.rd.size hv, HDC.out.own.o.o3⟩, HDC.out.own.t⟩
       obtain ⟨x0, x1, x2, x3, x4⟩ := five HDC.out.blk
       obtain ⟨f0, f1, f2, f3, f4⟩ := five_frozen HDC.out.blk
       clear hv hr ho C2)
    | fail)
  have HD : Hid (DcSt w w1 (w2.setCell ⟨g2, 2, none⟩ (.slice A2 zs.length c2)) rb g2 ⟨⟨A0, c0, A1, c1, A2, c2, none, 0⟩, none, 0⟩ ⟨⟨v0, qs, zs, []⟩, []⟩ s3) := Lib.hid (HDC.out.put HOW.out HN1.out HG2.out rfl)
  clear HDC HOW HDX x0 x1 x2 x3 x4 f0 f1 f2 f3 f4
  generalize w2.setCell ⟨g2, 2, none⟩ (.slice A2 zs.length c2) = wx3 at HD ⊢
  have HDX := HD
  go_upto_region 7 with (first
    | (go_at_call 58; refine (C3.out _ _ HD.out.rd.r).mono ?_; rintro en w2 ⟨A3, c3, rfl, hv, hr, ho⟩
       have HDC := Lib.hid (HD.out.call HRB.out HN0.out HN2.out hr ho)
       have HOW : Hid (OwnM w1 w2 ⟨⟨A0, c0, A1, c1, A2, c2, A3, c3⟩, none, 0⟩ ⟨⟨v0, qs, zs, ps⟩, []⟩) := Lib.hid ⟨⟨HDC.out.own.o.o0, HDC.out.own.o.o1, HDC.out.own.o.o2, hv.of HDX.out.rd.size⟩, HDC.out.own.t⟩
       obtain ⟨x0, x1, x2, x3, x4⟩ := five HDC.out.blk
       obtain ⟨f0, f1, f2, f3, f4⟩ := five_frozen HDC.out.blk
       clear hv hr ho C3)
    | fail)
  have HD : Hid (DcSt w w1 (w2.setCell ⟨g2, 3, none⟩ (.slice A3 ps.length c3)) rb g2 ⟨⟨A0, c0, A1, c1, A2, c2, A3, c3⟩, none, 0⟩ ⟨⟨v0, qs, zs, ps⟩, []⟩ s4) := Lib.hid (HDC.out.put HOW.out HN1.out HG2.out rfl)
  clear HDC HOW HDX x0 x1 x2 x3 x4 f0 f1 f2 f3 f4
  generalize w2.setCell ⟨g2, 3, none⟩ (.slice A3 ps.length c3) = wx4 at HD ⊢
  have HDX := HD
  go_upto_region 8 with (first
    | (go_at_call 60; refine (C4.out _ _ HD.out.rd.r).mono ?_; rintro en w2 ⟨A4, c4, rfl, hv, hr, ho⟩
       have HDC := Lib.hid (HD.out.call HRB.out HN0.out HN2.out hr ho)
       have HOW : Hid (OwnM w1 w2 ⟨⟨A0, c0, A1, c1, A2, c2, A3, c3⟩, A4, c4⟩ ⟨⟨v0, qs, zs, ps⟩, ts⟩) := Lib.hid ⟨HDC.out.own.o, hv.of HDX.out.rd.size⟩
       obtain ⟨x0, x1, x2, x3, x4⟩ := five HDC.out.blk
       obtain ⟨f0, f1, f2, f3, f4⟩ := five_frozen HDC.out.blk
       clear hv hr ho C4)
    | fail)
  have HD : Hid (DcSt w w1 (w2.setCell ⟨g2, 4, none⟩ (.slice A4 ts.length c4)) rb g2 ⟨⟨A0, c0, A1, c1, A2, c2, A3, c3⟩, A4, c4⟩ ⟨⟨v0, qs, zs, ps⟩, ts⟩ s5) := Lib.hid (HDC.out.put HOW.out HN1.out HG2.out rfl)
  clear HDC HOW HDX x0 x1 x2 x3 x4 f0 f1 f2 f3 f4
  generalize w2.setCell ⟨g2, 4, none⟩ (.slice A4 ts.length c4) = wx5 at HD ⊢
  have HBX : Hid (Below w.heap.size w wx5) := Lib.hid (below_only HB1.out HD.out.rd.only HRW.out)
  have HOWN : Hid (OwnM w wx5 ⟨⟨A0, c0, A1, c1, A2, c2, A3, c3⟩, A4, c4⟩ ⟨⟨v0, qs, zs, ps⟩, ts⟩) := Lib.hid (HD.out.own.of HZ1.out)
  have HRES := Lib.hid HD.out.res
  have HBLK := Lib.hid HD.out.blk
  have HRDR := Lib.hid HD.out.rd.r
  unfold machC at HBLK
  have hq2 : OwnI w wx5 A2 zs.length c2 zs := HOWN.out.o.o2
  have CE := Lib.hid (end_any _ _ _ HRDR.out)
  have CO := Lib.hid (isOnce_any wx5 (c := c2) (Rd.own_ hq2) (by omega) (own_cap hq2).1)
  have CP : Hid (∀ wy, Below wx5.heap.size wx5 wy → Calls Tryz.prog 63 #[.slice A3 ps.length c3, .func (.func 64) #[] #[]] wy fun e w' => e = .returned (.bool (okP ps)) ∧ Below wy.heap.size wy w') :=
    Lib.hid (fun wy hb => isRisingP_any wy (fun p hp => (HN.out.mp p hp).2.1) (HOWN.out.o.o3.rd.below hb) (by have := HN.out.ml; simp only [] at this; omega))
  have CT : Hid (∀ wy, Below wx5.heap.size wx5 wy → Calls Tryz.prog 65 #[.slice A4 ts.length c4] wy fun e w' => e = .returned (.bool (okT ts)) ∧ Below wy.heap.size wy w') :=
    Lib.hid (fun wy hb => isTable_any wy (fun t ht => ⟨(HN.out.t t ht).1.2.1, (HN.out.t t ht).1.2.2.2⟩) (by have := HN.out.tl; simp only [] at this; omega) (HOWN.out.t.rd.below hb))
  have HWF : Hid (R = if (decide zs.Nodup && okP ps && okT ts) = true ∧ s5 = some [] then some ⟨⟨v0, qs, zs, ps⟩, ts⟩ else none) := HDEC
  obtain ⟨E, hE⟩ : ∃ E, Pk.endOf s5 = E := ⟨_, rfl⟩
  have HE : Hid (E = true ↔ s5 = some []) := Lib.hid (by rw [← hE]; unfold Pk.endOf; exact decide_eq_true_iff)
  rw [hE] at CE
  obtain ⟨O, hO⟩ : ∃ O : Bool, decide zs.Nodup = O := ⟨_, rfl⟩
  rw [hO] at CO HWF
  obtain ⟨P, hP⟩ : ∃ P, okP ps = P := ⟨_, rfl⟩
  rw [hP] at CP HWF
  obtain ⟨T, hT⟩ : ∃ T, okT ts = T := ⟨_, rfl⟩
  rw [hT] at CT HWF
  clear hE hO hP hT HDEC HN hq2 k1 k2 k3
  cases E with
  | false =>
    go_upto_region 9 with (first
      | (go_at_call 29; refine CE.out.mono ?_; rintro en wq ⟨rfl, rfl⟩; obtain ⟨x0, x1, x2, x3, x4⟩ := five HBLK.out)
      | (go_at_call 62; refine CO.out.mono ?_; rintro en wq ⟨rfl, rfl⟩)
      | (go_at_call 63; refine (CP.out _ (Below.refl _ _)).mono ?_; rintro en w6 ⟨rfl, hb6⟩; obtain ⟨x0, x1, x2, x3, x4⟩ := five (HBLK.out.below hb6); have HB6 := Lib.hid hb6; clear hb6)
      | (go_at_call 65; refine (CT.out _ HB6.out).mono ?_; rintro en w7 ⟨rfl, hb7⟩; have HB7 := Lib.hid (HB6.out.trans (hb7.mono HB6.out.size)); clear hb7)
      | fail)
    have HRF : Hid (R = none) := Lib.hid (by rw [HWF.out, if_neg (by rw [← HE.out]; simp)])
    obtain ⟨y0, y1, y2, y3, y4⟩ := five (HRES.out)
    obtain ⟨f0, f1, f2, f3, f4⟩ := five_frozen (HRES.out)
    go_wp2_with fail
    obtain ⟨p1, p2, p3⟩ := dec_end (HRES.out) (HBX.out) (OwnM.zero w _)
    refine bodyPost_ret (results_cell_tmp rfl _ _ _ _ _ _ rfl p1 Tryz.underlying31 rfl (by kernel_rfl)) rfl ?_
    rw [HRF.out]
    exact ⟨_, rfl, p2, p3, p3⟩
  | true =>
  cases O with
  | false =>
    go_upto_region 9 with (first
      | (go_at_call 29; refine CE.out.mono ?_; rintro en wq ⟨rfl, rfl⟩; obtain ⟨x0, x1, x2, x3, x4⟩ := five HBLK.out)
      | (go_at_call 62; refine CO.out.mono ?_; rintro en wq ⟨rfl, rfl⟩)
      | (go_at_call 63; refine (CP.out _ (Below.refl _ _)).mono ?_; rintro en w6 ⟨rfl, hb6⟩; obtain ⟨x0, x1, x2, x3, x4⟩ := five (HBLK.out.below hb6); have HB6 := Lib.hid hb6; clear hb6)
      | (go_at_call 65; refine (CT.out _ HB6.out).mono ?_; rintro en w7 ⟨rfl, hb7⟩; have HB7 := Lib.hid (HB6.out.trans (hb7.mono HB6.out.size)); clear hb7)
      | fail)
    have HRF : Hid (R = none) := Lib.hid (by rw [HWF.out, if_neg (by rw [← HE.out]; simp)])
    obtain ⟨y0, y1, y2, y3, y4⟩ := five (HRES.out)
    obtain ⟨f0, f1, f2, f3, f4⟩ := five_frozen (HRES.out)
    go_wp2_with fail
    obtain ⟨p1, p2, p3⟩ := dec_end (HRES.out) (HBX.out) (OwnM.zero w _)
    refine bodyPost_ret (results_cell_tmp rfl _ _ _ _ _ _ rfl p1 Tryz.underlying31 rfl (by kernel_rfl)) rfl ?_
    rw [HRF.out]
    exact ⟨_, rfl, p2, p3, p3⟩
  | true =>
  cases P with
  | false =>
    go_upto_region 9 with (first
      | (go_at_call 29; refine CE.out.mono ?_; rintro en wq ⟨rfl, rfl⟩; obtain ⟨x0, x1, x2, x3, x4⟩ := five HBLK.out)
      | (go_at_call 62; refine CO.out.mono ?_; rintro en wq ⟨rfl, rfl⟩)
      | (go_at_call 63; refine (CP.out _ (Below.refl _ _)).mono ?_; rintro en w6 ⟨rfl, hb6⟩; obtain ⟨x0, x1, x2, x3, x4⟩ := five (HBLK.out.below hb6); have HB6 := Lib.hid hb6; clear hb6)
      | (go_at_call 65; refine (CT.out _ HB6.out).mono ?_; rintro en w7 ⟨rfl, hb7⟩; have HB7 := Lib.hid (HB6.out.trans (hb7.mono HB6.out.size)); clear hb7)
      | fail)
    have HRF : Hid (R = none) := Lib.hid (by rw [HWF.out, if_neg (by rw [← HE.out]; simp)])
    obtain ⟨y0, y1, y2, y3, y4⟩ := five (HRES.out.below HB6.out)
    obtain ⟨f0, f1, f2, f3, f4⟩ := five_frozen (HRES.out.below HB6.out)
    go_wp2_with fail
    obtain ⟨p1, p2, p3⟩ := dec_end (HRES.out.below HB6.out) (HBX.out.trans (HB6.out.mono HBX.out.size)) (OwnM.zero w _)
    refine bodyPost_ret (results_cell_tmp rfl _ _ _ _ _ _ rfl p1 Tryz.underlying31 rfl (by kernel_rfl)) rfl ?_
    rw [HRF.out]
    exact ⟨_, rfl, p2, p3, p3⟩
  | true =>
  cases T with
  | false =>
    go_upto_region 9 with (first
      | (go_at_call 29; refine CE.out.mono ?_; rintro en wq ⟨rfl, rfl⟩; obtain ⟨x0, x1, x2, x3, x4⟩ := five HBLK.out)
      | (go_at_call 62; refine CO.out.mono ?_; rintro en wq ⟨rfl, rfl⟩)
      | (go_at_call 63; refine (CP.out _ (Below.refl _ _)).mono ?_; rintro en w6 ⟨rfl, hb6⟩; obtain ⟨x0, x1, x2, x3, x4⟩ := five (HBLK.out.below hb6); have HB6 := Lib.hid hb6; clear hb6)
      | (go_at_call 65; refine (CT.out _ HB6.out).mono ?_; rintro en w7 ⟨rfl, hb7⟩; have HB7 := Lib.hid (HB6.out.trans (hb7.mono HB6.out.size)); clear hb7)
      | fail)
    have HRF : Hid (R = none) := Lib.hid (by rw [HWF.out, if_neg (by rw [← HE.out]; simp)])
    obtain ⟨y0, y1, y2, y3, y4⟩ := five (HRES.out.below HB7.out)
    obtain ⟨f0, f1, f2, f3, f4⟩ := five_frozen (HRES.out.below HB7.out)
    go_wp2_with fail
    obtain ⟨p1, p2, p3⟩ := dec_end (HRES.out.below HB7.out) (HBX.out.trans (HB7.out.mono HBX.out.size)) (OwnM.zero w _)
    refine bodyPost_ret (results_cell_tmp rfl _ _ _ _ _ _ rfl p1 Tryz.underlying31 rfl (by kernel_rfl)) rfl ?_
    rw [HRF.out]
    exact ⟨_, rfl, p2, p3, p3⟩
  | true =>
    go_upto_region 10 with (first
      | (go_at_call 29; refine CE.out.mono ?_; rintro en wq ⟨rfl, rfl⟩; obtain ⟨x0, x1, x2, x3, x4⟩ := five HBLK.out)
      | (go_at_call 62; refine CO.out.mono ?_; rintro en wq ⟨rfl, rfl⟩)
      | (go_at_call 63; refine (CP.out _ (Below.refl _ _)).mono ?_; rintro en w6 ⟨rfl, hb6⟩; obtain ⟨x0, x1, x2, x3, x4⟩ := five (HBLK.out.below hb6); have HB6 := Lib.hid hb6; clear hb6)
      | (go_at_call 65; refine (CT.out _ HB6.out).mono ?_; rintro en w7 ⟨rfl, hb7⟩; have HB7 := Lib.hid (HB6.out.trans (hb7.mono HB6.out.size)); clear hb7)
      | fail)
    have HRF : Hid (R = some ⟨⟨v0, qs, zs, ps⟩, ts⟩) := Lib.hid (by rw [HWF.out, if_pos ⟨rfl, HE.out.1 (by trivial)⟩])
    obtain ⟨y0, y1, y2, y3, y4⟩ := five (HRES.out.below HB7.out)
    obtain ⟨f0, f1, f2, f3, f4⟩ := five_frozen (HRES.out.below HB7.out)
    obtain ⟨z0, z1, z2, z3, z4⟩ := five (HBLK.out.below HB7.out)
    go_wp2_with fail
    obtain ⟨p1, p2, p3⟩ := dec_end (HRES.out.below HB7.out) (HBX.out.trans (HB7.out.mono HBX.out.size)) (HOWN.out.below HB7.out)
    refine bodyPost_ret (results_cell_tmp rfl _ _ _ _ _ _ rfl p1 Tryz.underlying31 rfl (by kernel_rfl)) rfl ?_
    rw [HRF.out]
    exact ⟨_, rfl, p2, p3, p3⟩
theorem decode10 : DecodeC10 := fun hl hb hn hc h hB => (decode_raw hl hb h).mono fun e w' h => GotMB.of hB h
end Go.Proofs.YtmekamgohonffaaGreat

