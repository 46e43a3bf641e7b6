/- MachOwnCore CloneKit InPlaceKit FifoWalks ObjsCopy LockC0 LockWalks LockWalks2 ObjsCopied -/
import Derived.Test.YthfnnieklkaefaaGreatS01
import Derived.Test.YthfnnieklkaefaaGreatS03
import Derived.Test.YthfnnieklkaefaaGreatS05
import Derived.Test.YthfnnieklkaefaaGreatS09
import Derived.Test.YthfnnieklkaefaaGreatS10
import Derived.Test.YthfnnieklkaefaaGreatS11
import Derived.Test.YthfnnieklkaefaaGreatS12
import Derived.Test.YthfnnieklkaefaaGreatS13
import Derived.Deep.RegionHeld3
import Derived.Deep.RegionLaw
import Derived.Laws.CopyRow
namespace Go.Proofs.YthfnnieklkaefaaGreat
open Go.RowKit
set_option linter.unusedVariables false
/-- the frame of the step's region -/
def frameO (A Aw : Option Addr) (n c hm L cw : Nat) (num : Int) (mv : Value) (U : Nat → Value) : Act := { tmps := #[.slice A n c, .int .i64 num, undef, undef, .bool false, .pointer (some ⟨hm, 0, none⟩), .slice Aw L cw, U 7, U 8, undef, undef, undef, undef, undef, undef, undef, undef, undef, undef, .slice A n c, mv, mv, .slice Aw L cw, U 23, U 24, U 25, U 26, U 27, U 28, U 29, undef, undef, undef, undef, undef, undef, undef, undef, undef, undef, undef, undef, undef, undef, undef, undef, undef, undef, undef, undef, undef, undef, undef, undef, undef, undef, undef, undef, undef, undef, undef, undef, undef, undef, undef, undef, undef, undef, undef, undef, undef, undef, undef, undef, undef, undef, undef, undef, undef, undef, undef, undef, undef, undef, undef, undef, undef, undef, undef, undef, undef, undef, undef, undef, undef, undef, undef, undef, undef, undef, undef, undef, undef, undef, undef, undef, undef, undef, undef, undef, undef, undef, undef, undef, undef, undef, undef, undef, undef, undef, undef, undef, undef, undef, undef, undef, undef, undef, undef, undef, undef, undef, undef, undef, undef, undef, undef, undef, undef, undef, undef, undef, undef, undef, undef, undef, undef, undef, undef, undef, undef, undef, undef, undef, undef, undef], defers := [] }
def dstO (i : Nat) : Nat := ([24, 25, 26, 27, 23, 28, 29, 7, 8] : List Nat).getD i (100 + i)
def depsO (i : Nat) : List Nat := ([[], [], [1], [0, 2], [3], [4], [4], [], []] : List (List Nat)).getD i []
def fO (i : Nat) : Bool := ([true, true, true, true, true, true, false, true, true] : List Bool).getD i false
/-- what each of its operations makes -/
def VO (wq : World) (mv : Value) (num : Int) : Nat → Value → World → Prop
  | 0, v, _ => v = mv
  | 1, v, _ => v = .int .i64 num
  | 2, v, w => ∃ ca e, v = entV ca e ∧ e.c.Fits ∧ RdC w w.heap.size ca e.c
  | 3, v, w => ∃ a2 m2 A2 c2 l2 e2 N2, v = .tuple #[machV a2 m2, resV e2 A2 l2.length c2 N2] ∧ OwnM wq w a2 m2 ∧ OwnB wq w A2 l2.length c2 l2 ∧ m2.Ok ∧ l2.length ≤ 16 ∧ ∀ x ∈ l2, x < 256
  | 4, v, w => ∃ a2 m2 A2 c2 l2 e2 N2, v = .tuple #[machV a2 m2, resV e2 A2 l2.length c2 N2] ∧ OwnM wq w a2 m2 ∧ OwnB wq w A2 l2.length c2 l2 ∧ m2.Ok ∧ l2.length ≤ 16 ∧ ∀ x ∈ l2, x < 256
  | 5, v, w => ∃ a2 m2, v = machV a2 m2 ∧ OwnM wq w a2 m2 ∧ m2.Ok
  | 6, v, w => ∃ A2 c2 l2 e2 N2, v = resV e2 A2 l2.length c2 N2 ∧ OwnB wq w A2 l2.length c2 l2 ∧ l2.length ≤ 16 ∧ ∀ x ∈ l2, x < 256
  | 7, v, w => ∃ ha, v = .pointer (some ⟨ha, 0, none⟩) ∧ wq.heap.size ≤ ha ∧ Blk w ha 37 #[.slice none 0 0, .slice none 0 0, .slice none 0 0, .slice none 0 0, .slice none 0 0]
  | 8, v, w => ∃ hr, v = .pointer (some ⟨hr, 0, none⟩) ∧ wq.heap.size ≤ hr ∧ Blk w hr 40 #[.int .i64 0, .slice none 0 0, .int .i64 0]
  | _, _, _ => True
theorem VO.below {wq : World} {mv : Value} {num : Int} : ∀ i v w w', VO wq mv num i v w → Below w.heap.size w w' → VO wq mv num i v w'
  | 0, v, w, w', h, hb => h
  | 1, v, w, w', h, hb => h
  | 2, v, w, w', ⟨ca, e, h1, h2, h3⟩, hb => ⟨ca, e, h1, h2, h3.below' hb⟩
  | 3, v, w, w', ⟨a2, m2, A2, c2, l2, e2, N2, h1, h2, h3, h4⟩, hb => ⟨a2, m2, A2, c2, l2, e2, N2, h1, h2.below hb, own_below h3 hb, h4⟩
  | 4, v, w, w', ⟨a2, m2, A2, c2, l2, e2, N2, h1, h2, h3, h4⟩, hb => ⟨a2, m2, A2, c2, l2, e2, N2, h1, h2.below hb, own_below h3 hb, h4⟩
  | 5, v, w, w', ⟨a2, m2, h1, h2, h3⟩, hb => ⟨a2, m2, h1, h2.below hb, h3⟩
  | 6, v, w, w', ⟨A2, c2, l2, e2, N2, h1, h2, h3⟩, hb => ⟨A2, c2, l2, e2, N2, h1, own_below h2 hb, h3⟩
  | 7, v, w, w', ⟨ha, h1, h2, h3⟩, hb => ⟨ha, h1, h2, h3.below hb⟩
  | 8, v, w, w', ⟨hr, h1, h2, h3⟩, hb => ⟨hr, h1, h2, h3.below hb⟩
  | _ + 9, v, w, w', h, hb => trivial
set_option maxHeartbeats 12000000 in
set_option maxRecDepth 100000 in
theorem machOwn_core (hStp : StepC10) (hD : DecodeC10) (hA : AwakeC10) {A : Option Addr} {n c B : Nat} {zs : List Int} (num : Int) (hn : n ≤ maxLen) (w : World) (h : Rd w B A n (iv zs)) :
    Calls Tryz.prog 5 #[.slice A n c, .int .i64 num] w fun e w' => e = .returned (.bool true) ∧ Below w.heap.size w w' := by
  have HMC := Lib.hid (machine_any (c := c) hn w h)
  clear h hn
  go_enter Tryz.func5, Tryz.ntmps5
  go_upto_region 2 with (first
    | (go_at_call 15; refine HMC.out.mono ?_; rintro en w1 ⟨a, m, rfl, hM, hO, hB⟩; unfold machV machC)
    | fail)
  have HM := Lib.hid hM
  have bb : Below w1.heap.size w1 (w1.alloc (.cells #[.slice a.o.A0 m.o.reg.length a.o.c0, .slice a.o.A1 m.o.q.length a.o.c1, .slice a.o.A2 m.o.lk.length a.o.c2, .slice a.o.A3 m.o.mp.length a.o.c3, .slice a.At m.t.length a.ct] 37)) := (Below.refl _ _).alloc (Nat.le_refl _) _
  obtain ⟨hm, hhm⟩ : ∃ x, w1.heap.size = x := ⟨_, rfl⟩
  have HK := Lib.hid (Blk.newAt w1 37 #[.slice a.o.A0 m.o.reg.length a.o.c0, .slice a.o.A1 m.o.q.length a.o.c1, .slice a.o.A2 m.o.lk.length a.o.c2, .slice a.o.A3 m.o.mp.length a.o.c3, .slice a.At m.t.length a.ct] hhm)
  have HRM := Lib.hid ((hO.below bb).rd)
  have HB1 := Lib.hid (hB.trans (bb.mono hB.size))
  rw [hhm]
  clear hM hO hB bb hhm HMC
  generalize w1.alloc (.cells #[.slice a.o.A0 m.o.reg.length a.o.c0, .slice a.o.A1 m.o.q.length a.o.c1, .slice a.o.A2 m.o.lk.length a.o.c2, .slice a.o.A3 m.o.mp.length a.o.c3, .slice a.At m.t.length a.ct] 37) = wa at HK HRM HB1 ⊢
  obtain ⟨x0, x1, x2, x3, x4⟩ := five HK.out
  have HEN := Lib.hid (refEncode_any (W := w) (w := wa) HM.out HRM.out HB1.out)
  obtain ⟨en0, hen0⟩ : ∃ x, m.enc = x := ⟨_, rfl⟩
  rw [hen0] at HEN
  have HENL : Hid (en0.length ≤ 100000 ∧ ∀ x ∈ en0, x < 256) := Lib.hid (by rw [← hen0]; exact ⟨Nat.le_trans HM.out.enc_length (by omega), HM.out.enc_lt⟩)
  have HDE : Hid (Mc.dec en0 = some m) := Lib.hid (by rw [← hen0]; exact Mc.dec_enc HM.out)
  have HENM := Lib.hid hen0
  clear hen0
  unfold machV machC at HEN
  go_upto_region 3 with (first
    | (go_at_call 16; refine HEN.out.mono ?_; rintro en w2 ⟨Aw, cw, rfl, ho, hB2, hb2⟩)
    | fail)
  have hcw := own_cap ho
  have HCW := Lib.hid hcw
  have HRW := Lib.hid (Rd.own_ ho)
  have HK := Lib.hid (HK.out.below hb2)
  have HRM := Lib.hid (HRM.out.below' hb2)
  have HB2 := Lib.hid hB2
  clear ho hB2 hb2 HB1 HEN x0 x1 x2 x3 x4 hcw
  go_cut [7, 8] from 24 to 29 (fun s7 s8 wx => ∃ (ha hr : Nat) (a2 : MA) (m2 : Mc) (A2 : Option Addr) (c2 : Nat) (l2 : List Nat) (e2 N2 : Int), s7 = .pointer (some ⟨ha, 0, none⟩) ∧ s8 = .pointer (some ⟨hr, 0, none⟩) ∧ Hid (Blk wx ha 37 #[.slice a2.o.A0 m2.o.reg.length a2.o.c0, .slice a2.o.A1 m2.o.q.length a2.o.c1, .slice a2.o.A2 m2.o.lk.length a2.o.c2, .slice a2.o.A3 m2.o.mp.length a2.o.c3, .slice a2.At m2.t.length a2.ct]) ∧ Hid (Blk wx hr 40 #[.int .i64 e2, .slice A2 l2.length c2, .int .i64 N2]) ∧ Hid (OwnM w2 wx a2 m2) ∧ Hid (OwnB w2 wx A2 l2.length c2 l2) ∧ Hid (m2.Ok) ∧ Hid (l2.length ≤ 16 ∧ ∀ x ∈ l2, x < 256) ∧ Hid (Below w2.heap.size w2 wx))
  case first =>
    have HKF : Hid (∀ wx, Below w2.heap.size w2 wx → Blk wx hm 37 #[.slice a.o.A0 m.o.reg.length a.o.c0, .slice a.o.A1 m.o.q.length a.o.c1, .slice a.o.A2 m.o.lk.length a.o.c2, .slice a.o.A3 m.o.mp.length a.o.c3, .slice a.At m.t.length a.ct]) := Lib.hid (fun wx hb => HK.out.below hb)
    refine region_two (U0 := fun _ => undef) fO 6 (frameO A Aw n c hm en0.length cw num (.agg #[.slice a.o.A0 m.o.reg.length a.o.c0, .slice a.o.A1 m.o.q.length a.o.c1, .slice a.o.A2 m.o.lk.length a.o.c2, .slice a.o.A3 m.o.mp.length a.o.c3, .slice a.At m.t.length a.ct])) dstO depsO (VO w2 (.agg #[.slice a.o.A0 m.o.reg.length a.o.c0, .slice a.o.A1 m.o.q.length a.o.c1, .slice a.o.A2 m.o.lk.length a.o.c2, .slice a.o.A3 m.o.mp.length a.o.c3, .slice a.At m.t.length a.ct]) num) (by kernel_rfl) (by kernel_rfl) rfl ?wait ?inj ?dst ?deps ?put VO.below (Below.refl _ _) ?hok ?done
    case wait => exact waits_of (by kernel_rfl)
    case inj =>
      intro i j hi hj h
      have hlt : ∀ i, (fO i = true ∨ i = 6) → i < 9 := fun i h => by
        rcases h with h | h
        · rcases Nat.lt_or_ge i 9 with h' | h'
          · exact h'
          · unfold fO at h; rw [List.getD_eq_getElem?_getD, List.getElem?_eq_none (by simpa using h')] at h; cases h
        · omega
      have h1 : ((List.range 9).all fun i => (List.range 9).all fun j => !(dstO i == dstO j) || (i == j)) = true := by kernel_rfl
      have h2 := List.all_eq_true.1 (List.all_eq_true.1 h1 i (List.mem_range.2 (hlt i hi))) j (List.mem_range.2 (hlt j hj))
      simpa [h] using h2
    case dst => exact fun i o hi ho => all_ops (p := fun i o => (fO i = true ∨ i = 6) → o.dst = some (dstO i) ∧ o.guard = none) (AllFrom.cons (fun _ => ⟨rfl, rfl⟩) (AllFrom.cons (fun _ => ⟨rfl, rfl⟩) (AllFrom.cons (fun _ => ⟨rfl, rfl⟩) (AllFrom.cons (fun _ => ⟨rfl, rfl⟩) (AllFrom.cons (fun _ => ⟨rfl, rfl⟩) (AllFrom.cons (fun _ => ⟨rfl, rfl⟩) (AllFrom.cons (fun _ => ⟨rfl, rfl⟩) (AllFrom.cons (fun _ => ⟨rfl, rfl⟩) (AllFrom.cons (fun _ => ⟨rfl, rfl⟩) (AllFrom.cons (fun h => absurd h (by decide)) (AllFrom.cons (fun h => absurd h (by decide)) AllFrom.nil))))))))))) i o ho hi
    case deps => exact deps_two (by kernel_rfl)
    case put => exact fun i o hi ho => all_ops (p := fun i o => (fO i = true ∨ i = 6) → ∀ U v, (frameO A Aw n c hm en0.length cw num (.agg #[.slice a.o.A0 m.o.reg.length a.o.c0, .slice a.o.A1 m.o.q.length a.o.c1, .slice a.o.A2 m.o.lk.length a.o.c2, .slice a.o.A3 m.o.mp.length a.o.c3, .slice a.At m.t.length a.ct]) U).put (some (dstO i)) v = frameO A Aw n c hm en0.length cw num (.agg #[.slice a.o.A0 m.o.reg.length a.o.c0, .slice a.o.A1 m.o.q.length a.o.c1, .slice a.o.A2 m.o.lk.length a.o.c2, .slice a.o.A3 m.o.mp.length a.o.c3, .slice a.At m.t.length a.ct]) (fun n => if n = dstO i then v else U n)) (AllFrom.cons (fun _ _ _ => by kernel_rfl) (AllFrom.cons (fun _ _ _ => by kernel_rfl) (AllFrom.cons (fun _ _ _ => by kernel_rfl) (AllFrom.cons (fun _ _ _ => by kernel_rfl) (AllFrom.cons (fun _ _ _ => by kernel_rfl) (AllFrom.cons (fun _ _ _ => by kernel_rfl) (AllFrom.cons (fun _ _ _ => by kernel_rfl) (AllFrom.cons (fun _ _ _ => by kernel_rfl) (AllFrom.cons (fun _ _ _ => by kernel_rfl) (AllFrom.cons (fun h => absurd h (by decide)) (AllFrom.cons (fun h => absurd h (by decide)) AllFrom.nil))))))))))) i o ho hi
    case hok =>
      refine fun i o hi ho => all_ops (p := fun i o => (fO i = true ∨ i = 6) → OpTwo _ _ _ _ _ _ _ i o) (AllFrom.cons (fun _ => ?s0) (AllFrom.cons (fun _ => ?s1) (AllFrom.cons (fun _ => ?s2) (AllFrom.cons (fun _ => ?s3) (AllFrom.cons (fun _ => ?s4) (AllFrom.cons (fun _ => ?s5) (AllFrom.cons (fun _ => ?s6) (AllFrom.cons (fun _ => ?s7) (AllFrom.cons (fun _ => ?s8) (AllFrom.cons (fun h => absurd h (by decide)) (AllFrom.cons (fun h => absurd h (by decide)) AllFrom.nil))))))))))) i o ho hi
      case s0 =>
        intro U w1 hB hdep K hK
        have e5 : (frameO A Aw n c hm en0.length cw num (.agg #[.slice a.o.A0 m.o.reg.length a.o.c0, .slice a.o.A1 m.o.q.length a.o.c1, .slice a.o.A2 m.o.lk.length a.o.c2, .slice a.o.A3 m.o.mp.length a.o.c3, .slice a.At m.t.length a.ct]) U).tmps[5]?.getD undef = .pointer (some ⟨hm, 0, none⟩) := by kernel_rfl
        generalize frameO A Aw n c hm en0.length cw num (.agg #[.slice a.o.A0 m.o.reg.length a.o.c0, .slice a.o.A1 m.o.q.length a.o.c1, .slice a.o.A2 m.o.lk.length a.o.c2, .slice a.o.A3 m.o.mp.length a.o.c3, .slice a.At m.t.length a.ct]) U = fr at e5 hK ⊢
        obtain ⟨x0, x1, x2, x3, x4⟩ := five (HKF.out w1 hB)
        go_simp
        exact hK.out _ _ (Below.refl _ _) rfl
      case s1 =>
        intro U w1 hB hdep K hK
        have e1 : (frameO A Aw n c hm en0.length cw num (.agg #[.slice a.o.A0 m.o.reg.length a.o.c0, .slice a.o.A1 m.o.q.length a.o.c1, .slice a.o.A2 m.o.lk.length a.o.c2, .slice a.o.A3 m.o.mp.length a.o.c3, .slice a.At m.t.length a.ct]) U).tmps[1]?.getD undef = .int .i64 num := by kernel_rfl
        generalize frameO A Aw n c hm en0.length cw num (.agg #[.slice a.o.A0 m.o.reg.length a.o.c0, .slice a.o.A1 m.o.q.length a.o.c1, .slice a.o.A2 m.o.lk.length a.o.c2, .slice a.o.A3 m.o.mp.length a.o.c3, .slice a.At m.t.length a.ct]) U = fr at e1 hK ⊢
        go_simp
        exact hK.out _ _ (Below.refl _ _) rfl
      case s2 =>
        intro U w1 hB hdep K hK
        have h1 : U 25 = .int .i64 num := hdep 1 (by decide)
        have e25 : (frameO A Aw n c hm en0.length cw num (.agg #[.slice a.o.A0 m.o.reg.length a.o.c0, .slice a.o.A1 m.o.q.length a.o.c1, .slice a.o.A2 m.o.lk.length a.o.c2, .slice a.o.A3 m.o.mp.length a.o.c3, .slice a.At m.t.length a.ct]) U).tmps[25]?.getD undef = .int .i64 num := by rw [← h1]; kernel_rfl
        generalize frameO A Aw n c hm en0.length cw num (.agg #[.slice a.o.A0 m.o.reg.length a.o.c0, .slice a.o.A1 m.o.q.length a.o.c1, .slice a.o.A2 m.o.lk.length a.o.c2, .slice a.o.A3 m.o.mp.length a.o.c3, .slice a.At m.t.length a.ct]) U = fr at e25 hK ⊢
        go_simp
        refine (entryZ_any num 40 (by omega) _).mono ?_
        rintro en w3 ⟨ca, e, rfl, hf, hrc, _, hb⟩
        go_simp
        exact hK.out _ _ hb ⟨ca, e, rfl, hf, hrc⟩
      case s3 =>
        intro U w1 hB hdep K hK
        have h1 : U 24 = .agg #[.slice a.o.A0 m.o.reg.length a.o.c0, .slice a.o.A1 m.o.q.length a.o.c1, .slice a.o.A2 m.o.lk.length a.o.c2, .slice a.o.A3 m.o.mp.length a.o.c3, .slice a.At m.t.length a.ct] := hdep 0 (by decide)
        obtain ⟨ca, e, h2, hf, hrc⟩ := (show VO w2 (.agg #[.slice a.o.A0 m.o.reg.length a.o.c0, .slice a.o.A1 m.o.q.length a.o.c1, .slice a.o.A2 m.o.lk.length a.o.c2, .slice a.o.A3 m.o.mp.length a.o.c3, .slice a.At m.t.length a.ct]) num 2 (U 26) w1 from hdep 2 (by decide))
        have e24 : (frameO A Aw n c hm en0.length cw num (.agg #[.slice a.o.A0 m.o.reg.length a.o.c0, .slice a.o.A1 m.o.q.length a.o.c1, .slice a.o.A2 m.o.lk.length a.o.c2, .slice a.o.A3 m.o.mp.length a.o.c3, .slice a.At m.t.length a.ct]) U).tmps[24]?.getD undef = .agg #[.slice a.o.A0 m.o.reg.length a.o.c0, .slice a.o.A1 m.o.q.length a.o.c1, .slice a.o.A2 m.o.lk.length a.o.c2, .slice a.o.A3 m.o.mp.length a.o.c3, .slice a.At m.t.length a.ct] := by rw [← h1]; kernel_rfl
        have e26 : (frameO A Aw n c hm en0.length cw num (.agg #[.slice a.o.A0 m.o.reg.length a.o.c0, .slice a.o.A1 m.o.q.length a.o.c1, .slice a.o.A2 m.o.lk.length a.o.c2, .slice a.o.A3 m.o.mp.length a.o.c3, .slice a.At m.t.length a.ct]) U).tmps[26]?.getD undef = entV ca e := by rw [← h2]; kernel_rfl
        generalize frameO A Aw n c hm en0.length cw num (.agg #[.slice a.o.A0 m.o.reg.length a.o.c0, .slice a.o.A1 m.o.q.length a.o.c1, .slice a.o.A2 m.o.lk.length a.o.c2, .slice a.o.A3 m.o.mp.length a.o.c3, .slice a.At m.t.length a.ct]) U = fr at e24 e26 hK ⊢
        have HC3 := Lib.hid (hStp.is (W := w2) (w := w1) (a := a) (ca := ca) (m := m) (e := e) rfl HM.out hf (HRM.out.below hB) hrc hB)
        have HOK : Hid ((m.step e).m.Ok) := Lib.hid (HM.out.step hf)
        have HVB : Hid ((m.step e).v.length ≤ 16 ∧ ∀ x ∈ (m.step e).v, x < 256) := Lib.hid (Mc.step_v HM.out)
        obtain ⟨r, hr⟩ : ∃ r, m.step e = r := ⟨_, rfl⟩
        rw [hr] at HC3 HOK HVB
        clear hr h1 h2 hdep
        unfold machV machC at HC3
        go_simp
        refine HC3.out.mono ?_
        rintro en w3 ⟨a2, A2, c2, rfl, ho, hv, hB3, hb⟩
        go_simp
        exact hK.out _ _ hb ⟨a2, r.m, A2, c2, r.v, r.e, r.n, rfl, ho, hv, HOK.out, HVB.out⟩
      case s4 =>
        intro U w1 hB hdep K hK
        obtain ⟨a2, m2, A2, c2, l2, e2, N2, h1, h2⟩ := (show VO w2 (.agg #[.slice a.o.A0 m.o.reg.length a.o.c0, .slice a.o.A1 m.o.q.length a.o.c1, .slice a.o.A2 m.o.lk.length a.o.c2, .slice a.o.A3 m.o.mp.length a.o.c3, .slice a.At m.t.length a.ct]) num 3 (U 27) w1 from hdep 3 (by decide))
        have e27 : (frameO A Aw n c hm en0.length cw num (.agg #[.slice a.o.A0 m.o.reg.length a.o.c0, .slice a.o.A1 m.o.q.length a.o.c1, .slice a.o.A2 m.o.lk.length a.o.c2, .slice a.o.A3 m.o.mp.length a.o.c3, .slice a.At m.t.length a.ct]) U).tmps[27]?.getD undef = .tuple #[machV a2 m2, resV e2 A2 l2.length c2 N2] := by rw [← h1]; kernel_rfl
        generalize frameO A Aw n c hm en0.length cw num (.agg #[.slice a.o.A0 m.o.reg.length a.o.c0, .slice a.o.A1 m.o.q.length a.o.c1, .slice a.o.A2 m.o.lk.length a.o.c2, .slice a.o.A3 m.o.mp.length a.o.c3, .slice a.At m.t.length a.ct]) U = fr at e27 hK ⊢
        go_simp
        exact hK.out _ _ (Below.refl _ _) ⟨a2, m2, A2, c2, l2, e2, N2, rfl, h2⟩
      case s5 =>
        intro U w1 hB hdep K hK
        obtain ⟨a2, m2, A2, c2, l2, e2, N2, h1, h2, h3, h4, h5⟩ := (show VO w2 (.agg #[.slice a.o.A0 m.o.reg.length a.o.c0, .slice a.o.A1 m.o.q.length a.o.c1, .slice a.o.A2 m.o.lk.length a.o.c2, .slice a.o.A3 m.o.mp.length a.o.c3, .slice a.At m.t.length a.ct]) num 4 (U 23) w1 from hdep 4 (by decide))
        have e23 : (frameO A Aw n c hm en0.length cw num (.agg #[.slice a.o.A0 m.o.reg.length a.o.c0, .slice a.o.A1 m.o.q.length a.o.c1, .slice a.o.A2 m.o.lk.length a.o.c2, .slice a.o.A3 m.o.mp.length a.o.c3, .slice a.At m.t.length a.ct]) U).tmps[23]?.getD undef = .tuple #[machV a2 m2, resV e2 A2 l2.length c2 N2] := by rw [← h1]; kernel_rfl
        generalize frameO A Aw n c hm en0.length cw num (.agg #[.slice a.o.A0 m.o.reg.length a.o.c0, .slice a.o.A1 m.o.q.length a.o.c1, .slice a.o.A2 m.o.lk.length a.o.c2, .slice a.o.A3 m.o.mp.length a.o.c3, .slice a.At m.t.length a.ct]) U = fr at e23 hK ⊢
        go_simp
        exact hK.out _ _ (Below.refl _ _) ⟨a2, m2, rfl, h2, h4⟩
      case s6 =>
        intro U w1 hB hdep K hK
        obtain ⟨a2, m2, A2, c2, l2, e2, N2, h1, h2, h3, h4, h5⟩ := (show VO w2 (.agg #[.slice a.o.A0 m.o.reg.length a.o.c0, .slice a.o.A1 m.o.q.length a.o.c1, .slice a.o.A2 m.o.lk.length a.o.c2, .slice a.o.A3 m.o.mp.length a.o.c3, .slice a.At m.t.length a.ct]) num 4 (U 23) w1 from hdep 4 (by decide))
        have e23 : (frameO A Aw n c hm en0.length cw num (.agg #[.slice a.o.A0 m.o.reg.length a.o.c0, .slice a.o.A1 m.o.q.length a.o.c1, .slice a.o.A2 m.o.lk.length a.o.c2, .slice a.o.A3 m.o.mp.length a.o.c3, .slice a.At m.t.length a.ct]) U).tmps[23]?.getD undef = .tuple #[machV a2 m2, resV e2 A2 l2.length c2 N2] := by rw [← h1]; kernel_rfl
        generalize frameO A Aw n c hm en0.length cw num (.agg #[.slice a.o.A0 m.o.reg.length a.o.c0, .slice a.o.A1 m.o.q.length a.o.c1, .slice a.o.A2 m.o.lk.length a.o.c2, .slice a.o.A3 m.o.mp.length a.o.c3, .slice a.At m.t.length a.ct]) U = fr at e23 hK ⊢
        go_simp
        exact hK.out _ _ (Below.refl _ _) ⟨A2, c2, l2, e2, N2, rfl, h3, h5⟩
      case s7 =>
        intro U w1 hB hdep K hK
        generalize frameO A Aw n c hm en0.length cw num (.agg #[.slice a.o.A0 m.o.reg.length a.o.c0, .slice a.o.A1 m.o.q.length a.o.c1, .slice a.o.A2 m.o.lk.length a.o.c2, .slice a.o.A3 m.o.mp.length a.o.c3, .slice a.At m.t.length a.ct]) U = fr at hK ⊢
        go_simp
        exact hK.out _ _ ((Below.refl _ _).alloc (Nat.le_refl _) _) ⟨w1.heap.size, rfl, hB.size, Blk.new _ _ _⟩
      case s8 =>
        intro U w1 hB hdep K hK
        generalize frameO A Aw n c hm en0.length cw num (.agg #[.slice a.o.A0 m.o.reg.length a.o.c0, .slice a.o.A1 m.o.q.length a.o.c1, .slice a.o.A2 m.o.lk.length a.o.c2, .slice a.o.A3 m.o.mp.length a.o.c3, .slice a.At m.t.length a.ct]) U = fr at hK ⊢
        go_simp
        exact hK.out _ _ ((Below.refl _ _).alloc (Nat.le_refl _) _) ⟨w1.heap.size, rfl, hB.size, Blk.new _ _ _⟩
    case done =>
      intro fuel b U w3 hB hV hq hf
      obtain ⟨a2, m2, e28, hom, hok⟩ := (show VO w2 (.agg #[.slice a.o.A0 m.o.reg.length a.o.c0, .slice a.o.A1 m.o.q.length a.o.c1, .slice a.o.A2 m.o.lk.length a.o.c2, .slice a.o.A3 m.o.mp.length a.o.c3, .slice a.At m.t.length a.ct]) num 5 (U 28) w3 from hV 5 (by decide) (by decide))
      obtain ⟨ha, e7, hal, hk7⟩ := (show VO w2 (.agg #[.slice a.o.A0 m.o.reg.length a.o.c0, .slice a.o.A1 m.o.q.length a.o.c1, .slice a.o.A2 m.o.lk.length a.o.c2, .slice a.o.A3 m.o.mp.length a.o.c3, .slice a.At m.t.length a.ct]) num 7 (U 7) w3 from hV 7 (by decide) (by decide))
      obtain ⟨hr, e8, hrl, hk8⟩ := (show VO w2 (.agg #[.slice a.o.A0 m.o.reg.length a.o.c0, .slice a.o.A1 m.o.q.length a.o.c1, .slice a.o.A2 m.o.lk.length a.o.c2, .slice a.o.A3 m.o.mp.length a.o.c3, .slice a.At m.t.length a.ct]) num 8 (U 8) w3 from hV 8 (by decide) (by decide))
      have HK7 := Lib.hid hk7
      have HK8 := Lib.hid hk8
      have HOM := Lib.hid hom
      have HOK := Lib.hid hok
      have HL7 := Lib.hid hal
      have HL8 := Lib.hid hrl
      have hS := Lib.hid hB
      clear hk7 hk8 hom hok hal hrl hB
      cases b with
      | true =>
        obtain ⟨A2, c2, l2, e2, N2, e29, hov, hvb⟩ := (show VO w2 (.agg #[.slice a.o.A0 m.o.reg.length a.o.c0, .slice a.o.A1 m.o.q.length a.o.c1, .slice a.o.A2 m.o.lk.length a.o.c2, .slice a.o.A3 m.o.mp.length a.o.c3, .slice a.At m.t.length a.ct]) num 6 (U 29) w3 from hq rfl)
        have HOV := Lib.hid hov
        have HVB := Lib.hid hvb
        have h2 : 2 ≤ fuel := by refine Nat.le_trans (Nat.le_of_eq ?_) hf; kernel_rfl
        obtain ⟨fu, rfl⟩ : ∃ fu, fuel = fu + 2 := ⟨fuel - 2, by omega⟩
        clear hov hvb hV hq hf h2
        unfold frameO
        rw [e28, e7, e8, e29]
        clear e28 e7 e8 e29
        unfold machV machC resV
        obtain ⟨x0, x1, x2, x3, x4⟩ := five HK7.out
        obtain ⟨f0, f1, f2, f3, f4⟩ := five_frozen HK7.out
        obtain ⟨p1, p2, p3, p4, p5⟩ := put5 HK7.out (.slice a2.o.A0 m2.o.reg.length a2.o.c0) (.slice a2.o.A1 m2.o.q.length a2.o.c1) (.slice a2.o.A2 m2.o.lk.length a2.o.c2) (.slice a2.o.A3 m2.o.mp.length a2.o.c3) (.slice a2.At m2.t.length a2.ct)
        have HP := Lib.hid (And.intro p1 (And.intro (p2 w2 HL7.out hS.out) (And.intro (p3 w2 a2 m2 HOM.out (by decide) (by decide) (by decide) (by decide) (by decide)) (p4 _ _ _ _ _ _ HOV.out (by decide)))))
        have HK8 := Lib.hid (p5 hr _ _ (fun h => HK8.out.apart HK7.out (by decide) h) HK8.out)
        clear p1 p2 p3 p4 p5
        refine wpAny_ready (rs := [9]) (by kernel_rfl) (by simp) ?_
        refine AllReady.cons rfl (fun K hK => ?_) AllReady.nil
        go_simp
        refine hK _ _ ?_
        clear hK K x0 x1 x2 x3 x4 f0 f1 f2 f3 f4
        have HK7 := Lib.hid HP.out.1
        have hS := Lib.hid HP.out.2.1
        have HOM := Lib.hid HP.out.2.2.1
        have HOV := Lib.hid HP.out.2.2.2
        clear HP
        generalize ((((w3.setCell ⟨ha, 0, none⟩ (.slice a2.o.A0 m2.o.reg.length a2.o.c0)).setCell ⟨ha, 1, none⟩ (.slice a2.o.A1 m2.o.q.length a2.o.c1)).setCell ⟨ha, 2, none⟩ (.slice a2.o.A2 m2.o.lk.length a2.o.c2)).setCell ⟨ha, 3, none⟩ (.slice a2.o.A3 m2.o.mp.length a2.o.c3)).setCell ⟨ha, 4, none⟩ (.slice a2.At m2.t.length a2.ct) = w4 at hS HK7 HOM HOV HK8 ⊢
        obtain ⟨x0, x1, x2, f0, f1, f2⟩ := three HK8.out
        obtain ⟨p1, p2, p3⟩ := put3 HK8.out (.int .i64 e2) (.slice A2 l2.length c2) (.int .i64 N2)
        have hne : ha ≠ hr := HK7.out.apart HK8.out (by decide)
        have HP := Lib.hid (And.intro p1 (And.intro (p2 w2 HL8.out hS.out) (And.intro (p3 _ _ _ _ _ _ HOV.out (by decide)) (And.intro (((HOM.out.set_t HK8.out (i := 0) (u := .int .i64 e2) (by decide) (by decide) (by decide) (by decide) (by decide)).set_t (HK8.out.set_ _ _) (i := 1) (u := .slice A2 l2.length c2) (by decide) (by decide) (by decide) (by decide) (by decide)).set_t ((HK8.out.set_ _ _).set_ _ _) (i := 2) (u := .int .i64 N2) (by decide) (by decide) (by decide) (by decide) (by decide)) (((HK7.out.set_other (i := 0) (u := .int .i64 e2) hne).set_other (i := 1) (u := .slice A2 l2.length c2) hne).set_other (i := 2) (u := .int .i64 N2) hne)))))
        clear p1 p2 p3
        refine wpAny_ready (rs := [10]) (by kernel_rfl) (by simp) ?_
        refine AllReady.cons rfl (fun K hK => ?_) AllReady.nil
        go_simp
        refine hK _ _ ?_
        clear hK K x0 x1 x2 f0 f1 f2
        refine wpAny_done (by kernel_rfl) ?_ _
        go_wp2_with fail
        go_meet
        exact ⟨ha, hr, a2, m2, A2, c2, l2, e2, N2, rfl, rfl, Lib.hid HP.out.2.2.2.2, Lib.hid HP.out.1, Lib.hid HP.out.2.2.2.1, Lib.hid HP.out.2.2.1, HOK, HVB, Lib.hid HP.out.2.1⟩
      | false =>
        obtain ⟨a3, m3, A2, c2, l2, e2, N2, e23, _, hov, _, hvb⟩ := (show VO w2 (.agg #[.slice a.o.A0 m.o.reg.length a.o.c0, .slice a.o.A1 m.o.q.length a.o.c1, .slice a.o.A2 m.o.lk.length a.o.c2, .slice a.o.A3 m.o.mp.length a.o.c3, .slice a.At m.t.length a.ct]) num 4 (U 23) w3 from hV 4 (by decide) (by decide))
        have HOV := Lib.hid hov
        have HVB := Lib.hid hvb
        have h2 : 3 ≤ fuel := by refine Nat.le_trans (Nat.le_of_eq ?_) hf; kernel_rfl
        obtain ⟨fu, rfl⟩ : ∃ fu, fuel = fu + 3 := ⟨fuel - 3, by omega⟩
        clear hov hvb hV hq hf h2
        unfold frameO
        rw [e28, e7, e8, e23]
        clear e28 e7 e8 e23
        unfold machV machC resV
        refine wpAny_take (i := 6) (v := .agg #[.int .i64 e2, .slice A2 l2.length c2, .int .i64 N2]) rfl (by kernel_rfl) (by kernel_rfl) (by kernel_rfl) (fun _ _ _ h => h) (Or.inl ⟨by kernel_rfl, fun w => by go_simp⟩) ?_
        obtain ⟨x0, x1, x2, x3, x4⟩ := five HK7.out
        obtain ⟨f0, f1, f2, f3, f4⟩ := five_frozen HK7.out
        obtain ⟨p1, p2, p3, p4, p5⟩ := put5 HK7.out (.slice a2.o.A0 m2.o.reg.length a2.o.c0) (.slice a2.o.A1 m2.o.q.length a2.o.c1) (.slice a2.o.A2 m2.o.lk.length a2.o.c2) (.slice a2.o.A3 m2.o.mp.length a2.o.c3) (.slice a2.At m2.t.length a2.ct)
        have HP := Lib.hid (And.intro p1 (And.intro (p2 w2 HL7.out hS.out) (And.intro (p3 w2 a2 m2 HOM.out (by decide) (by decide) (by decide) (by decide) (by decide)) (p4 _ _ _ _ _ _ HOV.out (by decide)))))
        have HK8 := Lib.hid (p5 hr _ _ (fun h => HK8.out.apart HK7.out (by decide) h) HK8.out)
        clear p1 p2 p3 p4 p5
        refine wpAny_ready (rs := [9]) (by kernel_rfl) (by simp) ?_
        refine AllReady.cons rfl (fun K hK => ?_) AllReady.nil
        go_simp
        refine hK _ _ ?_
        clear hK K x0 x1 x2 x3 x4 f0 f1 f2 f3 f4
        have HK7 := Lib.hid HP.out.1
        have hS := Lib.hid HP.out.2.1
        have HOM := Lib.hid HP.out.2.2.1
        have HOV := Lib.hid HP.out.2.2.2
        clear HP
        generalize ((((w3.setCell ⟨ha, 0, none⟩ (.slice a2.o.A0 m2.o.reg.length a2.o.c0)).setCell ⟨ha, 1, none⟩ (.slice a2.o.A1 m2.o.q.length a2.o.c1)).setCell ⟨ha, 2, none⟩ (.slice a2.o.A2 m2.o.lk.length a2.o.c2)).setCell ⟨ha, 3, none⟩ (.slice a2.o.A3 m2.o.mp.length a2.o.c3)).setCell ⟨ha, 4, none⟩ (.slice a2.At m2.t.length a2.ct) = w4 at hS HK7 HOM HOV HK8 ⊢
        obtain ⟨x0, x1, x2, f0, f1, f2⟩ := three HK8.out
        obtain ⟨p1, p2, p3⟩ := put3 HK8.out (.int .i64 e2) (.slice A2 l2.length c2) (.int .i64 N2)
        have hne : ha ≠ hr := HK7.out.apart HK8.out (by decide)
        have HP := Lib.hid (And.intro p1 (And.intro (p2 w2 HL8.out hS.out) (And.intro (p3 _ _ _ _ _ _ HOV.out (by decide)) (And.intro (((HOM.out.set_t HK8.out (i := 0) (u := .int .i64 e2) (by decide) (by decide) (by decide) (by decide) (by decide)).set_t (HK8.out.set_ _ _) (i := 1) (u := .slice A2 l2.length c2) (by decide) (by decide) (by decide) (by decide) (by decide)).set_t ((HK8.out.set_ _ _).set_ _ _) (i := 2) (u := .int .i64 N2) (by decide) (by decide) (by decide) (by decide) (by decide)) (((HK7.out.set_other (i := 0) (u := .int .i64 e2) hne).set_other (i := 1) (u := .slice A2 l2.length c2) hne).set_other (i := 2) (u := .int .i64 N2) hne)))))
        clear p1 p2 p3
        refine wpAny_ready (rs := [10]) (by kernel_rfl) (by simp) ?_
        refine AllReady.cons rfl (fun K hK => ?_) AllReady.nil
        go_simp
        refine hK _ _ ?_
        clear hK K x0 x1 x2 f0 f1 f2
        refine wpAny_done (by kernel_rfl) ?_ _
        go_wp2_with fail
        go_meet
        exact ⟨ha, hr, a2, m2, A2, c2, l2, e2, N2, rfl, rfl, Lib.hid HP.out.2.2.2.2, Lib.hid HP.out.1, Lib.hid HP.out.2.2.2.1, Lib.hid HP.out.2.2.1, HOK, HVB, Lib.hid HP.out.2.1⟩
  case rest =>
  obtain ⟨ha, hr, a2, m2, Av, c2, l2, e2, N2, rfl, rfl, HK7, HK8, HOM, HOV, HOK, HVB, HBX⟩ := hcut
  rename World => w3
  have HKF : Hid (∀ wx, Below w2.heap.size w2 wx → Blk wx hm 37 #[.slice a.o.A0 m.o.reg.length a.o.c0, .slice a.o.A1 m.o.q.length a.o.c1, .slice a.o.A2 m.o.lk.length a.o.c2, .slice a.o.A3 m.o.mp.length a.o.c3, .slice a.At m.t.length a.ct]) := Lib.hid (fun wx hb => HK.out.below hb)
  have HWF : Hid (∀ wx, Below w2.heap.size w2 wx → Rd wx w2.heap.size Aw en0.length (bv en0)) := Lib.hid (fun wx hb => HRW.out.below hb)
  obtain ⟨vs, us, ht⟩ := Tm.start (wc := w2) HK7.out HK8.out HOM.out HOV.out HOK.out HVB.out.1 HVB.out.2 HBX.out
  clear HK7 HK8 HOM HOV HOK HVB HBX HK HRW
  generalize a2.o.A0 = B0 at ht
  generalize a2.o.A1 = B1 at ht
  generalize a2.o.A2 = B2 at ht
  generalize a2.o.A3 = B3 at ht
  generalize a2.At = Bt at ht
  generalize a2.o.c0 = b0 at ht
  generalize a2.o.c1 = b1 at ht
  generalize a2.o.c2 = b2 at ht
  generalize a2.o.c3 = b3 at ht
  generalize a2.ct = bt at ht
  generalize m2.o.reg.length = n0 at ht
  generalize m2.o.q.length = n1 at ht
  generalize m2.o.lk.length = n2 at ht
  generalize m2.o.mp.length = n3 at ht
  generalize m2.t.length = nt at ht
  generalize l2.length = ml at ht
  have hlen := ht.len
  have HT := Lib.hid ht
  clear ht
  obtain ⟨x0, x1, x2, x3, x4⟩ := five HT.out.tb
  go_wp2_with fail
  clear x0 x1 x2 x3 x4
  go_loopw [33] (fun s33 wr => ∃ (j : Nat) (us : List Value), j ≤ nt ∧ s33 = .int .i64 (j : Int) ∧ Hid (Tm w2 wr ha hr B0 B1 B2 B3 Bt b0 b1 b2 b3 bt n0 n1 n2 n3 nt vs us Av ml c2 e2 N2)) (fun s33 _ => nt - (intOf s33).toNat)
  case atStart => exact ⟨0, us, Nat.zero_le _, rfl, HT⟩
  case round =>
    clear HT
    obtain ⟨j, us, hj, rfl, HT⟩ := hrel
    by_cases hlt : j < nt
    · obtain ⟨g, A9, m9, c9, rfl, hus, hm9⟩ := HT.out.row hlt
      obtain ⟨⟨v1, hv1⟩, hf1⟩ := HT.out.cell1 hlt
      have hji : (j : Int) < (nt : Int) := by omega
      have hwj : IntKind.i64.wrap ((j : Int) + 1) = (j : Int) + 1 := IntWalk.i64_in _ (by omega)
      obtain ⟨x0, x1, x2, x3, x4⟩ := five HT.out.tb
      go_upto_region 8 with fail
      have hus2 : (us.set (j * 5 + 1) (.int .i64 99))[j * 5 + 3]? = some (.slice A9 m9 c9) := by rw [List.getElem?_set_ne (by omega)]; exact hus
      have HT2 := Lib.hid (HT.out.seq hlt (v := .int .i64 99))
      obtain ⟨us2, hu2⟩ : ∃ x, us.set (j * 5 + 1) (.int .i64 99) = x := ⟨_, rfl⟩
      rw [hu2] at HT2 hus2
      have HUS := Lib.hid hus2
      clear x0 x1 x2 x3 x4 hv1 hf1 hus hu2 HT hus2
      generalize wr.setCell ⟨g, j * 5 + 1, none⟩ (.int .i64 99) = wa at HT2 ⊢
      obtain ⟨x0, x1, x2, x3, x4⟩ := five HT2.out.tb
      have hc3 := HT2.out.cell3 hlt HUS.out
      go_wp2_with fail
      clear x0 x1 x2 x3 x4 hc3
      go_loopw [49] (fun s49 wr => ∃ (l : Nat), l ≤ m9 ∧ s49 = .int .i64 (l : Int) ∧ Hid (Tm w2 wr ha hr B0 B1 B2 B3 (some ⟨g, 0, none⟩) b0 b1 b2 b3 bt n0 n1 n2 n3 nt vs us2 Av ml c2 e2 N2)) (fun s49 _ => m9 - (intOf s49).toNat)
      case atStart => exact ⟨0, Nat.zero_le _, rfl, HT2⟩
      case round =>
        clear HT2
        obtain ⟨l, hl, rfl, HT⟩ := hrel
        by_cases hl2 : l < m9
        · obtain ⟨gb, x, hgb, hb, hf, hx0, hx1, hc⟩ := HT.out.b3 hlt HUS.out hl2
          have hc3 := HT.out.cell3 hlt HUS.out
          rw [hgb] at hc3
          have hu := up8 x hx0 hx1
          have hli : (l : Int) < (m9 : Int) := by omega
          have hwl : IntKind.i64.wrap ((l : Int) + 1) = (l : Int) + 1 := IntWalk.i64_in _ (by omega)
          obtain ⟨x0, x1, x2, x3, x4⟩ := five HT.out.tb
          have HS := Lib.hid (HT.out.setb (i := l) hb (show 0 ≤ (x + 1) % 256 by omega) (by omega))
          clear HT hb hgb
          go_wp2_with fail
          go_roundw
          case rel => exact ⟨l + 1, by omega, by go_num, HS⟩
          case measure => simp only [intOf]; omega
        · have hli : ¬ (l : Int) < (m9 : Int) := by omega
          go_wp2_with fail
          go_roundw
          case rel => exact ⟨j + 1, us2, by omega, by go_num, HT⟩
          case measure => simp only [intOf]; omega
    · have hji : ¬ (j : Int) < (nt : Int) := by omega
      obtain ⟨x0, x1, x2, x3, x4⟩ := five HT.out.tb
      rename World => wv
      clear hlt
      go_wp2_with fail
      clear x0 x1 x2 x3 x4
      go_loopw [70] (fun s70 wr => ∃ (i : Nat), i ≤ n1 ∧ s70 = .int .i64 (i : Int) ∧ Hid (Tm w2 wr ha hr B0 B1 B2 B3 Bt b0 b1 b2 b3 bt n0 n1 n2 n3 nt vs us Av ml c2 e2 N2)) (fun s70 _ => n1 - (intOf s70).toNat)
      case atStart => exact ⟨0, Nat.zero_le _, rfl, HT⟩
      case round =>
        clear HT
        obtain ⟨i, hi, rfl, HT⟩ := hrel
        by_cases hlt : i < n1
        · obtain ⟨g, A9, m9, c9, rfl, hus, hm9⟩ := HT.out.qat hlt
          have HUS := Lib.hid hus
          have hji : (i : Int) < (n1 : Int) := by omega
          have hwj : IntKind.i64.wrap ((i : Int) + 1) = (i : Int) + 1 := IntWalk.i64_in _ (by omega)
          obtain ⟨x0, x1, x2, x3, x4⟩ := five HT.out.tb
          have hc3 := HT.out.qc hlt HUS.out
          clear hus
          go_wp2_with fail
          clear x0 x1 x2 x3 x4 hc3
          go_loopw [80] (fun s80 wr => ∃ (l : Nat), l ≤ m9 ∧ s80 = .int .i64 (l : Int) ∧ Hid (Tm w2 wr ha hr B0 (some ⟨g, 0, none⟩) B2 B3 Bt b0 b1 b2 b3 bt n0 n1 n2 n3 nt vs us Av ml c2 e2 N2)) (fun s80 _ => m9 - (intOf s80).toNat)
          case atStart => exact ⟨0, Nat.zero_le _, rfl, HT⟩
          case round =>
            clear HT
            obtain ⟨l, hl, rfl, HT⟩ := hrel
            by_cases hl2 : l < m9
            · obtain ⟨gb, x, hgb, hb, hf, hx0, hx1, hc⟩ := HT.out.bq HUS.out hl2
              have hc3 := HT.out.qc hlt HUS.out
              rw [hgb] at hc3
              have hu := up8 x hx0 hx1
              have hli : (l : Int) < (m9 : Int) := by omega
              have hwl : IntKind.i64.wrap ((l : Int) + 1) = (l : Int) + 1 := IntWalk.i64_in _ (by omega)
              obtain ⟨x0, x1, x2, x3, x4⟩ := five HT.out.tb
              have HS := Lib.hid (HT.out.setb (i := l) hb (show 0 ≤ (x + 1) % 256 by omega) (by omega))
              clear HT hb hgb
              go_wp2_with fail
              go_roundw
              case rel => exact ⟨l + 1, by omega, by go_num, HS⟩
              case measure => simp only [intOf]; omega
            · have hli : ¬ (l : Int) < (m9 : Int) := by omega
              go_wp2_with fail
              go_roundw
              case rel => exact ⟨i + 1, by omega, by go_num, HT⟩
              case measure => simp only [intOf]; omega
        · have hji : ¬ (i : Int) < (n1 : Int) := by omega
          obtain ⟨x0, x1, x2, _, _, _⟩ := three HT.out.rb
          rename World => wu
          clear hlt
          go_wp2_with fail
          clear x0 x1 x2
          go_loopw [99] (fun s99 wr => ∃ (l : Nat), l ≤ ml ∧ s99 = .int .i64 (l : Int) ∧ Hid (Tm w2 wr ha hr B0 B1 B2 B3 Bt b0 b1 b2 b3 bt n0 n1 n2 n3 nt vs us Av ml c2 e2 N2)) (fun s99 _ => ml - (intOf s99).toNat)
          case atStart => exact ⟨0, Nat.zero_le _, rfl, HT⟩
          case round =>
            clear HT
            obtain ⟨l, hl, rfl, HT⟩ := hrel
            by_cases hl2 : l < ml
            · obtain ⟨gb, x, hgb, hb, hf, hx0, hx1, hc⟩ := HT.out.bv hl2
              have hu := up8 x hx0 hx1
              have hli : (l : Int) < (ml : Int) := by omega
              have hwl : IntKind.i64.wrap ((l : Int) + 1) = (l : Int) + 1 := IntWalk.i64_in _ (by omega)
              obtain ⟨x0, x1, x2, _, _, _⟩ := three HT.out.rb
              rw [hgb] at x1
              have HS := Lib.hid (HT.out.setb (i := l) hb (show 0 ≤ (x + 1) % 256 by omega) (by omega))
              clear HT hb hgb
              go_wp2_with fail
              go_roundw
              case rel => exact ⟨l + 1, by omega, by go_num, HS⟩
              case measure => simp only [intOf]; omega
            · have hli : ¬ (l : Int) < (ml : Int) := by omega
              rename World => wt
              have HBT := Lib.hid HT.out.bel
              clear HT hl2
              have HDC : Hid (∀ wx, Below w2.heap.size w2 wx → Calls Tryz.prog 13 #[.slice Aw en0.length cw] wx (GotMB wx wx (some m))) := Lib.hid (fun wx hb => hD.is (W := wx) (c := cw) HDE.out HENL.out.1 HENL.out.2 HCW.out.1 HCW.out.2 (HWF.out wx hb) (Below.refl _ _))
              go_upto_region 29 with (first
                | (go_at_call 13; refine (HDC.out _ HBT.out).mono ?_; rintro en w5 ⟨d, rfl, hod, _, hb5⟩; unfold machV machC; simp only [Option.getD_some, Option.isSome_some])
                | fail)
              have bb : Below w5.heap.size w5 (w5.alloc (.cells #[.slice d.o.A0 m.o.reg.length d.o.c0, .slice d.o.A1 m.o.q.length d.o.c1, .slice d.o.A2 m.o.lk.length d.o.c2, .slice d.o.A3 m.o.mp.length d.o.c3, .slice d.At m.t.length d.ct] 37)) := (Below.refl _ _).alloc (Nat.le_refl _) _
              obtain ⟨hd, hhd⟩ : ∃ x, w5.heap.size = x := ⟨_, rfl⟩
              have HKD := Lib.hid (Blk.newAt w5 37 #[.slice d.o.A0 m.o.reg.length d.o.c0, .slice d.o.A1 m.o.q.length d.o.c1, .slice d.o.A2 m.o.lk.length d.o.c2, .slice d.o.A3 m.o.mp.length d.o.c3, .slice d.At m.t.length d.ct] hhd)
              have HRG : Hid (0 < m.o.reg.length → ∃ g, d.o.A0 = some ⟨g, 0, none⟩ ∧ Bytes8 (w5.alloc (.cells #[.slice d.o.A0 m.o.reg.length d.o.c0, .slice d.o.A1 m.o.q.length d.o.c1, .slice d.o.A2 m.o.lk.length d.o.c2, .slice d.o.A3 m.o.mp.length d.o.c3, .slice d.At m.t.length d.ct] 37)) wt.heap.size g m.o.reg.length) := Lib.hid (fun hp => by
                obtain ⟨g, e1, h1⟩ := soft_own hod.o.o0 HM.out.o.regb hp
                exact ⟨g, e1, h1.below bb⟩)
              have HBD : Hid (Below wt.heap.size wt (w5.alloc (.cells #[.slice d.o.A0 m.o.reg.length d.o.c0, .slice d.o.A1 m.o.q.length d.o.c1, .slice d.o.A2 m.o.lk.length d.o.c2, .slice d.o.A3 m.o.mp.length d.o.c3, .slice d.At m.t.length d.ct] 37))) := Lib.hid (hb5.trans (bb.mono hb5.size))
              have HRL : Hid (m.o.reg.length ≤ 16) := Lib.hid HM.out.o.reg
              rw [hhd]
              clear hod hb5 bb hhd
              generalize w5.alloc (.cells #[.slice d.o.A0 m.o.reg.length d.o.c0, .slice d.o.A1 m.o.q.length d.o.c1, .slice d.o.A2 m.o.lk.length d.o.c2, .slice d.o.A3 m.o.mp.length d.o.c3, .slice d.At m.t.length d.ct] 37) = wd at HKD HRG HBD ⊢
              obtain ⟨x0, x1, x2, x3, x4⟩ := five HKD.out
              go_wp2_with fail
              clear x0 x1 x2 x3 x4
              go_loopw [119] (fun s119 wr => ∃ (k : Nat), k ≤ m.o.reg.length ∧ s119 = .int .i64 (k : Int) ∧ Hid (Blk wr hd 37 #[.slice d.o.A0 m.o.reg.length d.o.c0, .slice d.o.A1 m.o.q.length d.o.c1, .slice d.o.A2 m.o.lk.length d.o.c2, .slice d.o.A3 m.o.mp.length d.o.c3, .slice d.At m.t.length d.ct]) ∧ Hid (0 < m.o.reg.length → ∃ g, d.o.A0 = some ⟨g, 0, none⟩ ∧ Bytes8 wr wt.heap.size g m.o.reg.length) ∧ Hid (Below wt.heap.size wt wr)) (fun s119 _ => m.o.reg.length - (intOf s119).toNat)
              case atStart => exact ⟨0, Nat.zero_le _, rfl, HKD, HRG, HBD⟩
              case round =>
                clear HKD HRG HBD
                obtain ⟨k, hk, rfl, HKD, HRG, HBD⟩ := hrel
                by_cases hk2 : k < m.o.reg.length
                · obtain ⟨gb, hgb, hb⟩ := HRG.out (by omega)
                  obtain ⟨hlo, hf, x, hx0, hx1, hc⟩ := hb.at hk2
                  have hu := up8 x hx0 hx1
                  have hki : (k : Int) < (m.o.reg.length : Int) := by omega
                  have hwk : IntKind.i64.wrap ((k : Int) + 1) = (k : Int) + 1 := IntWalk.i64_in _ (by have := HRL.out; omega)
                  obtain ⟨x0, x1, x2, x3, x4⟩ := five HKD.out
                  rw [hgb] at x0
                  have HS1 : Hid (Blk (wr.setCell ⟨gb, k, none⟩ (.int .u8 ((x + 1) % 256))) hd 37 #[.slice d.o.A0 m.o.reg.length d.o.c0, .slice d.o.A1 m.o.q.length d.o.c1, .slice d.o.A2 m.o.lk.length d.o.c2, .slice d.o.A3 m.o.mp.length d.o.c3, .slice d.At m.t.length d.ct]) := Lib.hid (HKD.out.set_other (fun e => hb.apart HKD.out (by decide) e.symm))
                  have HS2 : Hid (0 < m.o.reg.length → ∃ g, d.o.A0 = some ⟨g, 0, none⟩ ∧ Bytes8 (wr.setCell ⟨gb, k, none⟩ (.int .u8 ((x + 1) % 256))) wt.heap.size g m.o.reg.length) := Lib.hid (fun _ => ⟨gb, hgb, hb.set_ (by omega) (by omega)⟩)
                  have HS3 : Hid (Below wt.heap.size wt (wr.setCell ⟨gb, k, none⟩ (.int .u8 ((x + 1) % 256)))) := Lib.hid (HBD.out.setCell (p := ⟨gb, k, none⟩) hlo _)
                  clear HKD HRG HBD hb hgb
                  go_wp2_with fail
                  go_roundw
                  case rel => exact ⟨k + 1, by omega, by go_num, HS1, HS2, HS3⟩
                  case measure => simp only [intOf]; omega
                · have hki : ¬ (k : Int) < (m.o.reg.length : Int) := by omega
                  rename World => ws
                  have HBS : Hid (Below w2.heap.size w2 ws) := Lib.hid (HBT.out.trans (HBD.out.mono HBT.out.size))
                  clear HKD HRG HBD hk2
                  go_upto_region 35 with (first
                    | (go_at_call 13; refine (HDC.out _ HBS.out).mono ?_; rintro en w6 ⟨d2, rfl, hod, _, hb6⟩; unfold machV machC; simp only [Option.getD_some, Option.isSome_some])
                    | fail)
                  have bb : Below w6.heap.size w6 (w6.alloc (.cells #[.slice d2.o.A0 m.o.reg.length d2.o.c0, .slice d2.o.A1 m.o.q.length d2.o.c1, .slice d2.o.A2 m.o.lk.length d2.o.c2, .slice d2.o.A3 m.o.mp.length d2.o.c3, .slice d2.At m.t.length d2.ct] 37)) := (Below.refl _ _).alloc (Nat.le_refl _) _
                  obtain ⟨he, hhe⟩ : ∃ x, w6.heap.size = x := ⟨_, rfl⟩
                  have HKE := Lib.hid (Blk.newAt w6 37 #[.slice d2.o.A0 m.o.reg.length d2.o.c0, .slice d2.o.A1 m.o.q.length d2.o.c1, .slice d2.o.A2 m.o.lk.length d2.o.c2, .slice d2.o.A3 m.o.mp.length d2.o.c3, .slice d2.At m.t.length d2.ct] hhe)
                  have HRE : Hid (RdM (w6.alloc (.cells #[.slice d2.o.A0 m.o.reg.length d2.o.c0, .slice d2.o.A1 m.o.q.length d2.o.c1, .slice d2.o.A2 m.o.lk.length d2.o.c2, .slice d2.o.A3 m.o.mp.length d2.o.c3, .slice d2.At m.t.length d2.ct] 37)) (w6.alloc (.cells #[.slice d2.o.A0 m.o.reg.length d2.o.c0, .slice d2.o.A1 m.o.q.length d2.o.c1, .slice d2.o.A2 m.o.lk.length d2.o.c2, .slice d2.o.A3 m.o.mp.length d2.o.c3, .slice d2.At m.t.length d2.ct] 37)).heap.size d2 m) := Lib.hid ((hod.below bb).rd)
                  have HBE : Hid (Below w2.heap.size w2 (w6.alloc (.cells #[.slice d2.o.A0 m.o.reg.length d2.o.c0, .slice d2.o.A1 m.o.q.length d2.o.c1, .slice d2.o.A2 m.o.lk.length d2.o.c2, .slice d2.o.A3 m.o.mp.length d2.o.c3, .slice d2.At m.t.length d2.ct] 37))) := Lib.hid (HBS.out.trans ((hb6.trans (bb.mono hb6.size)).mono HBS.out.size))
                  rw [hhe]
                  clear hod hb6 bb hhe
                  generalize w6.alloc (.cells #[.slice d2.o.A0 m.o.reg.length d2.o.c0, .slice d2.o.A1 m.o.q.length d2.o.c1, .slice d2.o.A2 m.o.lk.length d2.o.c2, .slice d2.o.A3 m.o.mp.length d2.o.c3, .slice d2.At m.t.length d2.ct] 37) = we at HKE HRE HBE ⊢
                  have HRM2 : Hid (RdM we we.heap.size a m) := Lib.hid ((HRM.out.below HBE.out).fit)
                  have HEN : Hid (∀ wx, Below we.heap.size we wx → Calls Tryz.prog 16 #[.agg #[.slice a.o.A0 m.o.reg.length a.o.c0, .slice a.o.A1 m.o.q.length a.o.c1, .slice a.o.A2 m.o.lk.length a.o.c2, .slice a.o.A3 m.o.mp.length a.o.c3, .slice a.At m.t.length a.ct]] wx (GotIn wx wx en0)) := Lib.hid (fun wx hb => by
                    have h1 := refEncode_any (W := wx) (w := wx) (a := a) HM.out (HRM2.out.below hb) (Below.refl _ _)
                    rw [HENM.out] at h1
                    exact h1)
                  have HSM : Hid (∀ wx, Below we.heap.size we wx → Calls Tryz.prog 17 #[.agg #[.slice d2.o.A0 m.o.reg.length d2.o.c0, .slice d2.o.A1 m.o.q.length d2.o.c1, .slice d2.o.A2 m.o.lk.length d2.o.c2, .slice d2.o.A3 m.o.mp.length d2.o.c3, .slice d2.At m.t.length d2.ct], .agg #[.slice a.o.A0 m.o.reg.length a.o.c0, .slice a.o.A1 m.o.q.length a.o.c1, .slice a.o.A2 m.o.lk.length a.o.c2, .slice a.o.A3 m.o.mp.length a.o.c3, .slice a.At m.t.length a.ct]] wx fun e w' => e = .returned (.bool true) ∧ Below wx.heap.size wx w') := Lib.hid (fun wx hb => by
                    have h1 := refSame_any wx (a := d2) (a' := a) HM.out HM.out (HRE.out.below hb) (HRM2.out.below hb)
                    rw [decide_eq_true rfl] at h1
                    exact h1)
                  have HK2 : Hid (∀ wx, Below we.heap.size we wx → Blk wx hm 37 #[.slice a.o.A0 m.o.reg.length a.o.c0, .slice a.o.A1 m.o.q.length a.o.c1, .slice a.o.A2 m.o.lk.length a.o.c2, .slice a.o.A3 m.o.mp.length a.o.c3, .slice a.At m.t.length a.ct] ∧ Blk wx he 37 #[.slice d2.o.A0 m.o.reg.length d2.o.c0, .slice d2.o.A1 m.o.q.length d2.o.c1, .slice d2.o.A2 m.o.lk.length d2.o.c2, .slice d2.o.A3 m.o.mp.length d2.o.c3, .slice d2.At m.t.length d2.ct]) := Lib.hid (fun wx hb => ⟨HKF.out wx (HBE.out.trans (hb.mono HBE.out.size)), HKE.out.below hb⟩)
                  have HSW : Hid (∀ wx, Below we.heap.size we wx → (convert 24 9 (.slice Aw en0.length cw)).run Tryz.prog wx = .ok (.string (strB en0)) wx) := Lib.hid (fun wx hb => str_of (HWF.out wx (HBE.out.trans (hb.mono HBE.out.size))))
                  have hs1 := strB_self en0
                  have hs2 : ((strB en0).toList == (strB en0).toList) = true := by simp
                  have hS0 : Below we.heap.size we we.drew := (Below.refl _ _).drew
                  refine wp_region_held_drew (S := fun w' => Below we.heap.size we w') (by kernel_rfl) hS0 (fun _ => ?_)
                  have hS := Lib.hid hS0
                  clear hS0
                  generalize we.drew = q0 at hS ⊢
                  refine wpAnyH_take (i := 0) (v := .bool true) rfl (by kernel_rfl) (by kernel_rfl) (by kernel_rfl) (fun _ _ _ h => h) (Or.inl ⟨by kernel_rfl, fun w _ => by go_simp⟩) hS.out ?_
                  refine wpAnyH_take (i := 1) (v := .bool true) rfl (by kernel_rfl) (by kernel_rfl) (by kernel_rfl) (fun _ _ _ h => h) (Or.inl ⟨by kernel_rfl, fun w _ => by go_simp⟩) hS.out ?_
                  refine wpAnyH_take (i := 2) (v := .bool true) rfl (by kernel_rfl) (by kernel_rfl) (by kernel_rfl) (fun _ _ _ h => h) (Or.inl ⟨by kernel_rfl, fun w _ => by go_simp⟩) hS.out ?_
                  refine wpAnyH_take (i := 3) (v := .bool true) rfl (by kernel_rfl) (by kernel_rfl) (by kernel_rfl) (fun _ _ _ h => h) (Or.inl ⟨by kernel_rfl, fun w _ => by go_simp⟩) hS.out ?_
                  refine wpAnyH_take (i := 4) (v := .bool true) rfl (by kernel_rfl) (by kernel_rfl) (by kernel_rfl) (fun _ _ _ h => h) (Or.inl ⟨by kernel_rfl, fun w _ => by go_simp⟩) hS.out ?_
                  refine wpAnyH_take (i := 5) (v := .agg #[.slice a.o.A0 m.o.reg.length a.o.c0, .slice a.o.A1 m.o.q.length a.o.c1, .slice a.o.A2 m.o.lk.length a.o.c2, .slice a.o.A3 m.o.mp.length a.o.c3, .slice a.At m.t.length a.ct]) rfl (by kernel_rfl) (by kernel_rfl) (by kernel_rfl) (fun _ _ _ h => h) (Or.inl ⟨by kernel_rfl, fun w h => by obtain ⟨q0, q1, q2, q3, q4⟩ := five (HK2.out w h).1; go_simp⟩) hS.out ?_
                  refine wpAnyH_take (i := 8) (v := .slice Aw en0.length cw) rfl (by kernel_rfl) (by kernel_rfl) (by kernel_rfl) (fun _ _ _ h => h) (Or.inl ⟨by kernel_rfl, fun w _ => by go_simp⟩) hS.out ?_
                  refine wpAnyH_take (i := 9) (v := .string (strB en0)) rfl (by kernel_rfl) (by kernel_rfl) (by kernel_rfl) (fun _ _ _ h => h) (Or.inl ⟨by kernel_rfl, fun w h => by have q := HSW.out w h; go_simp⟩) hS.out ?_
                  refine wpAnyH_ready (rs := [6]) (by kernel_rfl) (by simp) ?_
                  refine AllReadyH.cons rfl (fun K hK => ?_) AllReadyH.nil
                  go_simp
                  refine (HEN.out _ hS.out).mono ?_
                  rintro en w7 ⟨A7, c7, rfl, ho7, hB7, hb7⟩
                  have hst := str_of (c := c7) (Rd.own_ ho7)
                  have hS := Lib.hid (hS.out.trans (hb7.mono hS.out.size))
                  clear ho7 hB7 hb7
                  go_simp
                  refine hK.out _ _ hS.out (fun _ => ?_)
                  clear hK K
                  refine wpAnyH_ready (rs := [7]) (by kernel_rfl) (by simp) ?_
                  refine AllReadyH.cons rfl (fun K hK => ?_) AllReadyH.nil
                  go_simp
                  refine hK.out _ _ hS.out (fun _ => ?_)
                  clear hK K
                  clear hst
                  refine wpAnyH_take (i := 10) (v := .bool true) rfl (by kernel_rfl) (by kernel_rfl) (by kernel_rfl) (fun _ _ _ h => h) (Or.inl ⟨by kernel_rfl, fun w _ => by go_simp⟩) hS.out ?_
                  refine wpAnyH_take (i := 11) (v := .bool true) rfl (by kernel_rfl) (by kernel_rfl) (by kernel_rfl) (fun _ _ _ h => h) (Or.inl ⟨by kernel_rfl, fun w _ => by go_simp⟩) hS.out ?_
                  refine wpAnyH_take (i := 12) (v := .bool true) rfl (by kernel_rfl) (by kernel_rfl) (by kernel_rfl) (fun _ _ _ h => h) (Or.inl ⟨by kernel_rfl, fun w _ => by go_simp⟩) hS.out ?_
                  refine wpAnyH_take (i := 13) (v := .agg #[.slice d2.o.A0 m.o.reg.length d2.o.c0, .slice d2.o.A1 m.o.q.length d2.o.c1, .slice d2.o.A2 m.o.lk.length d2.o.c2, .slice d2.o.A3 m.o.mp.length d2.o.c3, .slice d2.At m.t.length d2.ct]) rfl (by kernel_rfl) (by kernel_rfl) (by kernel_rfl) (fun _ _ _ h => h) (Or.inl ⟨by kernel_rfl, fun w h => by obtain ⟨q0, q1, q2, q3, q4⟩ := five (HK2.out w h).2; go_simp⟩) hS.out ?_
                  refine wpAnyH_take (i := 14) (v := .agg #[.slice a.o.A0 m.o.reg.length a.o.c0, .slice a.o.A1 m.o.q.length a.o.c1, .slice a.o.A2 m.o.lk.length a.o.c2, .slice a.o.A3 m.o.mp.length a.o.c3, .slice a.At m.t.length a.ct]) rfl (by kernel_rfl) (by kernel_rfl) (by kernel_rfl) (fun _ _ _ h => h) (Or.inl ⟨by kernel_rfl, fun w h => by obtain ⟨q0, q1, q2, q3, q4⟩ := five (HK2.out w h).1; go_simp⟩) hS.out ?_
                  refine wpAnyH_ready (rs := [15]) (by kernel_rfl) (by simp) ?_
                  refine AllReadyH.cons rfl (fun K hK => ?_) AllReadyH.nil
                  go_simp
                  refine (HSM.out _ hS.out).mono ?_
                  rintro en w8 ⟨rfl, hb8⟩
                  have hS := Lib.hid (hS.out.trans (hb8.mono hS.out.size))
                  clear hb8
                  go_simp
                  refine hK.out _ _ hS.out (fun _ => ?_)
                  clear hK K
                  refine wpAnyH_take (i := 16) (v := .bool true) rfl (by kernel_rfl) (by kernel_rfl) (by kernel_rfl) (fun _ _ _ h => h) (Or.inl ⟨by kernel_rfl, fun w _ => by go_simp⟩) hS.out ?_
                  refine wpAnyH_take (i := 17) (v := .bool true) rfl (by kernel_rfl) (by kernel_rfl) (by kernel_rfl) (fun _ _ _ h => h) (Or.inl ⟨by kernel_rfl, fun w _ => by go_simp⟩) hS.out ?_
                  refine wpAnyH_ready (rs := [18]) (by kernel_rfl) (by simp) ?_
                  refine AllReadyH.cons rfl (fun K hK => ?_) AllReadyH.nil
                  go_simp
                  refine (hA _).mono ?_
                  rintro en w9 ⟨rfl, hb9⟩
                  have hS := Lib.hid (hS.out.trans (hb9.mono hS.out.size))
                  clear hb9
                  go_simp
                  refine hK.out _ _ hS.out (fun _ => ?_)
                  clear hK K
                  refine wpAnyH_take (i := 19) (v := .bool true) rfl (by kernel_rfl) (by kernel_rfl) (by kernel_rfl) (fun _ _ _ h => h) (Or.inl ⟨by kernel_rfl, fun w _ => by go_simp⟩) hS.out ?_
                  refine wpAnyH_take (i := 20) (v := .bool true) rfl (by kernel_rfl) (by kernel_rfl) (by kernel_rfl) (fun _ _ _ h => h) (Or.inl ⟨by kernel_rfl, fun w _ => by go_simp⟩) hS.out ?_
                  refine wpAnyH_done (by kernel_rfl) ?_ _
                  go_wp2_with fail
                  go_ret
                  have h1 := HBE.out.trans (hS.out.mono HBE.out.size)
                  exact ⟨rfl, HB2.out.trans (h1.mono HB2.out.size)⟩
end Go.Proofs.YthfnnieklkaefaaGreat

namespace Go.Proofs.YthfnnieklkaefaaGreat
open Go.RowKit
set_option linter.unusedVariables false

set_option maxRecDepth 100000 in
theorem clone_raw (l : List Nat) (A : Option Addr) (n c B : Nat) (hn : Lim 0 n) (w : World) (hr : Rd w B A n (bv l)) :
    Calls Tryz.prog 69 #[.slice A n c] w (GotB w l) := by
  have hn := hn.out
  have H := Lib.hid hr.fit
  have hB0 : Below w.heap.size w w := Below.refl _ _
  cases A with
  | none =>
    have h0 : n = 0 := by
      rcases Nat.eq_zero_or_pos n with h | h
      · exact h
      · obtain ⟨b, o, h1, _⟩ := hr.2 h
        cases h1
    subst h0
    have hl : l = [] := List.eq_nil_of_length_eq_zero hr.length
    subst hl
    clear hr H
    have he : ∀ w : World, (binOp .eql 24 (.slice none 0 c) (.slice none 0 0)).run Tryz.prog w = .ok (.bool true) w := fun _ => rfl
    go_enter Tryz.func69, Tryz.ntmps69
    go_wp2
    go_ret
    exact ⟨none, 0, 0, rfl, ⟨rfl, .inl ⟨rfl, rfl⟩⟩, hB0⟩
  | some a =>
    clear hr
    have he : ∀ w : World, (binOp .eql 24 (.slice (some a) n c) (.slice none 0 0)).run Tryz.prog w = .ok (.bool false) w := fun _ => rfl
    go_enter Tryz.func69, Tryz.ntmps69
    go_wp2_with (first
      | (at_builtin
         refine wpList_append_bytes (W := w) byteT (.tmp 5) (.tmp 6) rfl (by rfl) rfl (own_empty hB0 5) rfl ((H.out).alloc (Nat.le_refl _) _) (by omega) (hB0.alloc (Nat.le_refl _) _) ?_
         intro A1 c1 w1 hown1 hr1 hB1
         simp only [Nat.zero_add, List.nil_append] at hown1 hr1)
      | fail)
    go_ret
    exact ⟨_, _, _, rfl, hown1, hB1⟩
theorem clone_any {W w : World} {l : List Nat} {A : Option Addr} {n c B : Nat} (hn : Lim 0 n) (hr : Rd w B A n (bv l)) (hB : Below W.heap.size W w) :
    Calls Tryz.prog 69 #[.slice A n c] w (GotIn W w l) :=
  (clone_raw l A n c B hn w hr).mono fun e w' h => GotIn.of hB h
end Go.Proofs.YthfnnieklkaefaaGreat

namespace Go.Proofs.YthfnnieklkaefaaGreat
open Go.RowKit
set_option linter.unusedVariables false
theorem adr_add (g o j : Nat) : (⟨g, o, none⟩ : Addr).add j = ⟨g, o + j, none⟩ := by unfold Addr.add; split <;> simp_all
section
variable {P : Program} {t e : TypeId} {z : Value} {size bytes : Nat}
/-- what a slice that reads holds, at its address -/
theorem Rd.news {w : World} {B n : Nat} {A : Option Addr} {vs : List Value} (h : Rd w B A n vs) (hn : 0 < n) : ∃ a, A = some a ∧ ∀ j u, vs[j]? = some u → w.cell? (a.add j) = some u := by
  obtain ⟨b, o, rfl, _, hc⟩ := h.2 hn
  refine ⟨_, rfl, fun j u hu => ?_⟩
  have hj : j < n := by have := (List.getElem?_eq_some_iff.1 hu).1; rw [h.1] at this; exact this
  rw [adr_add, hc j hj, hu]
/-- append in place, as one step of a region that draws -/
theorem step_append_fits {W w : World} (hT : CellS P t e z size bytes) {ops : Array Oper} {o : Oper} {a : Act} {K : Act → World → Prop} {Q : Exit → Act → World → Prop} {E : Prop} (s x : Operand)
    (ho : o.op = .call { callee := .builtin .append, args := #[s, x], argTypes := #[t, t] }) (hg : o.guard = none)
    {g n c : Nat} {vs : List Value} (hs : a.eval s = .slice (some ⟨g, 0, none⟩) n c) (hown : w.ownsRow W.heap.size e size (.slice (some ⟨g, 0, none⟩) n c) n vs)
    {B : Nat} {A' : Option Addr} {m c' : Nat} {ws : List Value} (hx : a.eval x = .slice A' m c') (hr : Rd w B A' (m * size) ws) (h1 : ∀ u ∈ ws, u.oneCell' = true) (hm : 0 < m) (hroom : n + m ≤ c) (hB : Below W.heap.size W w)
    (h : ∀ w2, w2.ownsRow W.heap.size e size (.slice (some ⟨g, 0, none⟩) (n + m) c) (n + m) (vs ++ ws) → Below W.heap.size W w2 → w.grownBy w2 (some g) → K (a.put o.dst (.slice (some ⟨g, 0, none⟩) (n + m) c)) w2) :
    if Region.wanted o (yielded ops a.tmps) = true then Oper.wp P o a w K Q else E := by
  have hw : Region.wanted o (yielded ops a.tmps) = true := by simp [Region.wanted, hg]
  rw [if_pos hw]
  obtain ⟨i, hi, hz, hsz, hbi⟩ := info_parts hT.info
  obtain ⟨ad, rfl, hnews⟩ := hr.news (Nat.mul_pos hm hT.pos)
  obtain ⟨w', hrun, h2, h3⟩ := run_append_fits (P := P) w W.heap.size t o.type e i size hT.under hi hsz g n c vs hown ad m c' ws hr.1 hnews h1 hroom
  have hlt := hown.lt
  have hB2 : Below W.heap.size W w' := hB.grown h3 hB.size (fun k hk => (hlt k hk).1)
  have hgo := h w' h2 hB2 h3
  unfold Oper.wp execOp
  simp only [ho, resolve, invoke, builtin, Sem.run_bind, Sem.run_pure, Result.andThen_ok, List.map_toArray, List.map_cons, List.map_nil, hs, hx, hrun]
  exact hgo
theorem wpList_append_fits {W w : World} (hT : CellS P t e z size bytes) {ops : Array Oper} {rest : List Oper} {o : Oper} {a : Act} {Q : Exit → Act → World → Prop} (s x : Operand)
    (ho : o.op = .call { callee := .builtin .append, args := #[s, x], argTypes := #[t, t] }) (hw : Region.wanted o (yielded ops a.tmps) = true)
    {g n c : Nat} {vs : List Value} (hs : a.eval s = .slice (some ⟨g, 0, none⟩) n c) (hown : w.ownsRow W.heap.size e size (.slice (some ⟨g, 0, none⟩) n c) n vs)
    {B : Nat} {A' : Option Addr} {m c' : Nat} {ws : List Value} (hx : a.eval x = .slice A' m c') (hr : Rd w B A' (m * size) ws) (h1 : ∀ u ∈ ws, u.oneCell' = true) (hm : 0 < m) (hroom : n + m ≤ c) (hB : Below W.heap.size W w)
    (h : ∀ w2, w2.ownsRow W.heap.size e size (.slice (some ⟨g, 0, none⟩) (n + m) c) (n + m) (vs ++ ws) → Below W.heap.size W w2 → w.grownBy w2 (some g) → wpList P ops Q rest (a.put o.dst (.slice (some ⟨g, 0, none⟩) (n + m) c)) w2) :
    wpList P ops Q (o :: rest) a w := by
  obtain ⟨i, hi, hz, hsz, hbi⟩ := info_parts hT.info
  obtain ⟨ad, rfl, hnews⟩ := hr.news (Nat.mul_pos hm hT.pos)
  obtain ⟨w', hrun, h2, h3⟩ := run_append_fits (P := P) w W.heap.size t o.type e i size hT.under hi hsz g n c vs hown ad m c' ws hr.1 hnews h1 hroom
  have hlt := hown.lt
  have hB2 : Below W.heap.size W w' := hB.grown h3 hB.size (fun k hk => (hlt k hk).1)
  have hgo := h w' h2 hB2 h3
  unfold wpList
  rw [if_pos hw]
  refine Or.inl ?_
  unfold Oper.wp execOp
  simp only [ho, resolve, invoke, builtin, Sem.run_bind, Sem.run_pure, Result.andThen_ok, List.map_toArray, List.map_cons, List.map_nil, hs, hx, hrun]
  exact hgo
end
/-- a row of the call's own, some of whose cells are written over -/
theorem own_written {w : World} {base g n c size n' : Nat} {e : TypeId} {vs vs' : List Value} (h : w.ownsRow base e size (.slice (some ⟨g, 0, none⟩) n c) n vs) (cs : Array Value) (hcs : cs.size = c * size) (hn : n' ≤ c) (hl : vs'.length = n' * size) (ht : cs.toList.take (n' * size) = vs') :
    (w.setRow g cs).ownsRow base e size (.slice (some ⟨g, 0, none⟩) n' c) n' vs' ∧ w.grownBy (w.setRow g cs) (some g) := by
  rcases h.2 with ⟨h1, _⟩ | ⟨g', cap, cur, hv, hb, hh, hnc, hm, hs, htk⟩
  · simp at h1
  · simp only [Value.slice.injEq, Option.some.injEq, Addr.mk.injEq, and_true, true_and] at hv
    obtain ⟨rfl, rfl⟩ := hv
    exact ⟨⟨hl, .inr ⟨g, c, cs, rfl, hb, setRow_heap w g cur _ e _ hh, hn, hm, hcs, ht⟩⟩, ⟨rfl, rfl, rfl, by simp, fun k _ hk => setRow_other w g k _ (fun e => hk (by simp [e]))⟩⟩
theorem own_cur {w : World} {base g n c size : Nat} {e : TypeId} {vs : List Value} (h : w.ownsRow base e size (.slice (some ⟨g, 0, none⟩) n c) n vs) : ∃ cur, Blk w g e cur ∧ cur.size = c * size ∧ cur.toList.take (n * size) = vs ∧ n ≤ c ∧ base ≤ g := by
  rcases h.2 with ⟨h1, _⟩ | ⟨g', cap, cur, hv, hb, hh, hnc, hm, hs, htk⟩
  · simp at h1
  · simp only [Value.slice.injEq, Option.some.injEq, Addr.mk.injEq, and_true, true_and] at hv
    obtain ⟨rfl, rfl⟩ := hv
    exact ⟨cur, hh, hs, htk, hnc, hb⟩
/-- copy into a block that is known -/
theorem run_copy_blk {P : Program} (w : World) (dT sT ty elem : TypeId) (g o dLen dCap : Nat) (a : Addr) (sLen sCap : Nat) (cur : Array Value) (t : TypeId) (cs : List Value) (size m : Nat)
    (hu : P.underlying dT = some (.slice elem)) (hs : (P.info? elem).map (·.size) = some size)
    (hg : Blk w g t cur) (hm : m = Nat.min sLen dLen) (hn : cs.length = m * size)
    (hsrc : ∀ j v, cs[j]? = some v → w.cell? (a.add j) = some v) (hfit : o + cs.length ≤ cur.size) (h1 : ∀ v ∈ cs, v.oneCell' = true) :
    (Builtin.copy_ #[dT, sT] ty #[.slice (some ⟨g, o, none⟩) dLen dCap, .slice (some a) sLen sCap]).run P w =
      .ok (.int .i64 (m : Int)) (w.setRow g (cur.toList.take o ++ cs ++ cur.toList.drop (o + cs.length)).toArray) := by
  have hl := run_loadCells_list (P := P) w a cs hsrc
  have hst := run_storeCells_at P g o t cs 0 cur w hg (by simpa using hfit) h1
  cases hq : P.info? elem with
  | none => simp [hq] at hs
  | some i =>
    have hi : i.size = size := by simpa [hq] using hs
    rw [hn] at hl
    simp only [Nat.add_zero] at hst
    simp [Builtin.copy_, run_underlying hu, Builtin.lenOf, Builtin.firstCells, sizeOf, typeInfo, hq, hi, ← hm, hl, hst, goInt]
/-- clear of one element -/
theorem run_clear_one {P : Program} (w : World) (t ty e : TypeId) (i : TypeInfo) (z : Value) (ht : P.underlying t = some (.slice e)) (hi : P.info? e = some i) (hz : i.zero = some z) (h1 : ∀ u ∈ z.cells.toList, u.oneCell' = true)
    (g o c : Nat) (cur : Array Value) (hg : Blk w g e cur) (hfit : o + z.cells.size ≤ cur.size) :
    (Builtin.clear_ #[t] ty #[.slice (some ⟨g, o, none⟩) 1 c]).run P w = .ok (.tuple #[]) (w.setRow g (cur.toList.take o ++ z.cells.toList ++ cur.toList.drop (o + z.cells.size)).toArray) := by
  have hzc : (Builtin.zeroCells z.cells 1).toList = z.cells.toList := by
    unfold Builtin.zeroCells
    apply List.ext_getElem?
    intro j
    rcases Nat.lt_or_ge j z.cells.size with hj | hj
    · simp [hj, Nat.mod_eq_of_lt hj]
    · simp [hj]
  have hst := run_storeCells_at P g o e z.cells.toList 0 cur w hg (by simpa using hfit) h1
  simp only [Nat.add_zero] at hst
  simp [Builtin.clear_, run_underlying ht, zeroValue, typeInfo, hi, hz, hzc, hst]
end Go.Proofs.YthfnnieklkaefaaGreat

namespace Go.Proofs.YthfnnieklkaefaaGreat
open Go.RowKit
set_option linter.unusedVariables false
theorem Blk.far {w w' : World} {g n c base' size' : Nat} {t e' : TypeId} {cs : Array Value} {A' : Option Addr} {xs' : List Value} (h : Blk w g t cs) (ho : w.ownsRow base' e' size' (.slice A' n c) n xs') (hne : t ≠ e') (hg : w.grownBy w' (Value.slice A' n c).ownBlock) : Blk w' g t cs := by
  refine h.grown hg ?_
  rcases own_blk ho with ⟨q1, _, _⟩ | ⟨g', cur', q1, _, hk'⟩
  · rw [q1]; intro h0; cases h0
  · rw [q1]; intro h0
    have h3 : g = g' := by simpa [Value.ownBlock] using h0
    exact Blk.apart h hk' hne h3
set_option maxRecDepth 100000 in
theorem copied_raw (qs : List (List Nat)) (A : Option Addr) (n c B : Nat) (hn : n ≤ 100000) (hL : LimL qs) (w : World) (hr : RdQ w B A n qs) :
    Calls Tryz.prog 144 #[.slice A n c] w (GotQ w w qs) := by
  have HL := Lib.hid hL
  have HR := Lib.hid hr.fit
  have hlen := hr.length
  obtain ⟨i0, hi0, hi1, hi2, hi3⟩ := info_parts cellQ.info
  clear hr hL
  go_enter Tryz.func144, Tryz.ntmps144
  go_wp2_with (first
    | (at_make
       refine wpList_make_own w rfl _ _ 31 rfl w.heap.size 24 i0 _ 1 Tryz.underlying31 hi0 hi1 hi2 _ _ _ (n + 1) rfl rfl (by push_cast; rfl) (by rw [hi3]; omega) (by unfold maxLen; omega) (Nat.le_refl _) ?_
       intro w0 hown0 hg0)
    | fail)
  go_loopw [3, 12] (fun s3 s12 wr => ∃ (k c' : Nat) (A' : Option Addr), k ≤ n ∧ s12 = .int .i64 (k : Int) ∧ s3 = .slice A' k c' ∧ Hid (OwnQ w wr A' k c' (qs.take k)) ∧ Hid (Below w.heap.size w wr)) (fun _ s12 _ => n - (intOf s12).toNat)
  case atStart => exact ⟨0, _, _, Nat.zero_le _, rfl, rfl, Lib.hid ⟨[], hown0, by simpa using Owns.nil w w0⟩, Lib.hid ((Below.refl _ _).grown hg0 (Nat.le_refl _) (fun k hk => by cases hk))⟩
  case round =>
    obtain ⟨k, c', A', hk, rfl, rfl, HO, HB⟩ := hrel
    by_cases hlt : k < n
    · obtain ⟨b, o, l, A1, c1, rfl, hl, hcell, hrd⟩ := (HR.out.below HB.out).at hlt
      have hll : Lim 0 l.length := HL.out l (List.mem_of_getElem? hl)
      have HRD := Lib.hid hrd
      have HLL := Lib.hid hl
      clear hrd hl
      go_wp2_with (first
        | (go_at_call 69; refine (clone_any (W := w) hll HRD.out HB.out).mono ?_; rintro e w1 ⟨A2, c2, rfl, ho2, hB2, hb2⟩; obtain ⟨vs, hv1, hv2⟩ := HO.out.below hb2)
        | (at_builtin
           refine wpList_append_cells (W := w) cellQ (.tmp 16) (.tmp 19) rfl (by rfl) rfl (ownsRow_below hv1 ((Below.refl _ _).alloc (Nat.le_refl _) _)) rfl (Rd.oneV _ _ _) (by intro u hu; simp at hu; subst hu; rfl) (by omega) (by omega) (hB2.alloc hB2.size _) ?_
           intro A3 c3 w3 hown3 hB3 hg3)
        | fail)
      go_roundw
      case rel =>
        refine ⟨k + 1, c3, A3, by omega, by go_num, rfl, Lib.hid ?_, Lib.hid hB3⟩
        have b1 : Below w1.heap.size w1 (w1.alloc (.cells #[.slice A2 l.length c2] 24)) := (Below.refl _ _).alloc (Nat.le_refl _) _
        refine ⟨vs ++ [.slice A2 l.length c2], hown3, ?_⟩
        rw [List.take_add_one, HLL.out]
        exact ((hv2.snoc ho2).below b1).grown (ownsRow_below hv1 b1) hg3
      case measure => simp only [intOf]; omega
    · obtain rfl : k = n := by omega
      go_wp2_with fail
      go_ret
      have HO2 := HO.out
      rw [List.take_of_length_le (by omega)] at HO2
      subst hlen
      exact ⟨A', c', rfl, HO2, HB.out, HB.out⟩
theorem copied_any {W w : World} {qs : List (List Nat)} {A : Option Addr} {n c B : Nat} (hn : n ≤ 100000) (hL : LimL qs) (hr : RdQ w B A n qs) (hB : Below W.heap.size W w) :
    Calls Tryz.prog 144 #[.slice A n c] w (GotQ W w qs) :=
  (copied_raw qs A n c B hn hL w hr).mono fun e w' h => GotQ.of hB h
set_option maxRecDepth 100000 in
theorem push_raw {w : World} {qs : List (List Nat)} {v : List Nat} {A A' : Option Addr} {n c n' c' B B' : Nat} (hn : n ≤ 100000) (hL : LimL qs) (hn' : Lim 0 n') (hr : RdQ w B A n qs) (hr' : Rd w B' A' n' (bv v)) :
    Calls Tryz.prog 91 #[.slice A n c, .slice A' n' c'] w (GotQR w w (pushS qs v) (pushE qs v) [] (pushN qs v)) := by
  have hB := Below.refl w.heap.size w
  have HL := Lib.hid hL
  have HR := Lib.hid hr.fit
  have HR' := Lib.hid hr'.fit
  obtain rfl := hr.length
  obtain rfl := hr'.length
  have b0 : Below w.heap.size w (w.alloc (.cells zeroR 40)) := (Below.refl _ _).alloc (Nat.le_refl _) _
  clear hr hr' hL
  unfold pushS pushE pushN
  by_cases hlt : 16 < v.length
  · rw [if_pos hlt, if_pos hlt, if_pos hlt]
    go_enter Tryz.func91, Tryz.ntmps91
    go_wp2_with (first
      | (go_at_call 144; refine (copied_any (W := w) hn HL.out (HR.out.below b0) (hB.alloc hB.size _)).mono ?_; rintro e w1 ⟨A1, c1, rfl, ho1, hB1, hb1⟩; have HK := Lib.hid ((Blk.new w 40 zeroR).below hb1); obtain ⟨x0, x1, x2, f0, f1, f2⟩ := three HK.out)
      | fail)
    obtain ⟨k1, k2, k3⟩ := put3 HK.out (.int .i64 1) (.slice none 0 0) (.int .i64 0)
    have hbw : Below w.heap.size w w1 := b0.trans (hb1.mono (by simp))
    refine bodyPost_ret (results_tmp_cell_row rfl _ _ _ _ _ _ rfl k1 Tryz.underlying40 rfl (by kernel_rfl)) rfl ?_
    exact ⟨A1, c1, none, 0, rfl, ho1.put3 HK.out (by decide) (by decide) _ _ _, own_nil _ _, k2 w (Nat.le_refl _) hB1, k2 w (Nat.le_refl _) hbw⟩
  · rw [if_neg hlt, if_neg hlt, if_neg hlt]
    by_cases hf : 8 ≤ qs.length
    · rw [if_pos hf, if_pos hf, if_pos hf]
      go_enter Tryz.func91, Tryz.ntmps91
      go_wp2_with (first
        | (go_at_call 144; refine (copied_any (W := w) hn HL.out (HR.out.below b0) (hB.alloc hB.size _)).mono ?_; rintro e w1 ⟨A1, c1, rfl, ho1, hB1, hb1⟩; have HK := Lib.hid ((Blk.new w 40 zeroR).below hb1); obtain ⟨x0, x1, x2, f0, f1, f2⟩ := three HK.out)
        | fail)
      obtain ⟨k1, k2, k3⟩ := put3 HK.out (.int .i64 3) (.slice none 0 0) (.int .i64 0)
      have hbw : Below w.heap.size w w1 := b0.trans (hb1.mono (by simp))
      refine bodyPost_ret (results_tmp_cell_row rfl _ _ _ _ _ _ rfl k1 Tryz.underlying40 rfl (by kernel_rfl)) rfl ?_
      exact ⟨A1, c1, none, 0, rfl, ho1.put3 HK.out (by decide) (by decide) _ _ _, own_nil _ _, k2 w (Nat.le_refl _) hB1, k2 w (Nat.le_refl _) hbw⟩
    · rw [if_neg hf, if_neg hf, if_neg hf]
      go_enter Tryz.func91, Tryz.ntmps91
      go_wp2_with (first
        | (go_at_call 144; refine (copied_any (W := w) hn HL.out (HR.out.below b0) (hB.alloc hB.size _)).mono ?_; rintro e w1 ⟨A1, c1, rfl, ho1, hB1, hb1⟩; have hbw : Below w.heap.size w w1 := b0.trans (hb1.mono (by simp)))
        | (go_at_call 69; refine (clone_any (W := w) hn' (HR'.out.below hbw) hB1).mono ?_; rintro e w2 ⟨A2, c2, rfl, ho2, hB2, hb2⟩; obtain ⟨vs, hv1, hv2⟩ := ho1.below hb2)
        | (at_builtin
           refine wpList_append_cells (W := w) cellQ (.tmp 19) (.tmp 22) rfl (by rfl) rfl (ownsRow_below hv1 ((Below.refl _ _).alloc (Nat.le_refl _) _)) rfl (Rd.oneV _ _ _) (by intro u hu; simp at hu; subst hu; rfl) (by omega) (by omega) (hB2.alloc hB2.size _) ?_
           intro A3 c3 w3 hown3 hB3 hg3
           have b1 : Below w2.heap.size w2 (w2.alloc (.cells #[.slice A2 v.length c2] 24)) := (Below.refl _ _).alloc (Nat.le_refl _) _
           have HQ : Hid (OwnQ w w3 A3 (qs.length + 1) c3 (qs ++ [v])) := Lib.hid ⟨vs ++ [.slice A2 v.length c2], hown3, ((hv2.snoc ho2).below b1).grown (ownsRow_below hv1 b1) hg3⟩
           have HK := Lib.hid (((((Blk.new w 40 zeroR).below hb1).below hb2).alloc (.cells #[.slice A2 v.length c2] 24)).far (ownsRow_below hv1 b1) (by decide) hg3)
           obtain ⟨x0, x1, x2, f0, f1, f2⟩ := three HK.out
           have HB3 := Lib.hid hB3
           clear hown3 hB3)
        | fail)
      obtain ⟨k1, k2, k3⟩ := put3 HK.out (.int .i64 0) (.slice none 0 0) (.int .i64 ((qs.length : Int) + 1))
      refine bodyPost_ret (results_tmp_cell_row rfl _ _ _ _ _ _ rfl k1 Tryz.underlying40 rfl (by kernel_rfl)) rfl ?_
      have e : (qs ++ [v]).length = qs.length + 1 := by simp
      have h3 := k2 w (Nat.le_refl _) HB3.out
      exact ⟨A3, c3, none, 0, by rw [e]; rfl, by rw [e]; exact HQ.out.put3 HK.out (by decide) (by decide) _ _ _, own_nil _ _, h3, h3⟩
theorem push_any {W w : World} {qs : List (List Nat)} {v : List Nat} {A A' : Option Addr} {n c n' c' B B' : Nat} (hn : n ≤ 100000) (hL : LimL qs) (hn' : Lim 0 n') (hr : RdQ w B A n qs) (hr' : Rd w B' A' n' (bv v)) (hB : Below W.heap.size W w) :
    Calls Tryz.prog 91 #[.slice A n c, .slice A' n' c'] w (GotQR W w (pushS qs v) (pushE qs v) [] (pushN qs v)) :=
  (push_raw hn hL hn' hr hr').mono fun e w' h => GotQR.of hB h
set_option maxHeartbeats 2000000 in
set_option maxRecDepth 100000 in
theorem pop_raw {w : World} {qs : List (List Nat)} {A : Option Addr} {n c B : Nat} (hn : n ≤ 100000) (hc : n ≤ c) (hL : LimL qs) (hr : RdQ w B A n qs) :
    Calls Tryz.prog 92 #[.slice A n c] w (GotQR w w qs.tail (popE qs) (popV qs) 0) := by
  have hB := Below.refl w.heap.size w
  have HL := Lib.hid hL
  have HR := Lib.hid hr.fit
  obtain rfl := hr.length
  have b0 : Below w.heap.size w (w.alloc (.cells zeroR 40)) := (Below.refl _ _).alloc (Nat.le_refl _) _
  clear hr hL
  unfold popE popV
  rcases Nat.eq_zero_or_pos qs.length with h0 | h0
  · have hq : qs = [] := List.eq_nil_of_length_eq_zero h0
    subst hq
    rw [if_pos h0]
    clear h0
    go_enter Tryz.func92, Tryz.ntmps92
    go_wp2_with fail
    refine bodyPost_ret (results_tmp_cell_row rfl _ _ _ _ _ _ rfl (Blk.new w 40 #[.int .i64 4, .slice none 0 0, .int .i64 0]) Tryz.underlying40 rfl (by kernel_rfl)) rfl ?_
    have h3 : Below w.heap.size w (w.alloc (.cells #[.int .i64 4, .slice none 0 0, .int .i64 0] 40)) := (Below.refl _ _).alloc (Nat.le_refl _) _
    exact ⟨none, 0, none, 0, rfl, OwnQ.nil _ _, own_nil _ _, h3, h3⟩
  · have hq0 : ¬ qs.length = 0 := by omega
    rw [if_neg hq0]
    have hne : ((qs.length : Int) == 0) = false := by rw [beq_eq_false_iff_ne]; omega
    obtain ⟨b, o, l, A1, c1, rfl, hl, hcell, hrd⟩ := HR.out.at h0
    have hll : Lim 0 l.length := HL.out l (List.mem_of_getElem? hl)
    have hv : qs.head?.getD [] = l := by rw [List.head?_eq_getElem?, hl]; rfl
    rw [hv]
    have HRD := Lib.hid hrd
    have HL1 : Hid (LimL qs.tail) := Lib.hid (fun x hx => HL.out x (List.mem_of_mem_tail hx))
    have HR1 : Hid (RdQ w w.heap.size (cutAt (some ⟨b, o, none⟩) c 1) (qs.length - 1) qs.tail) := Lib.hid (by have := HR.out.drop (k := 1) (c := c) (by omega) hc; rwa [List.drop_one] at this)
    have htl : qs.tail.length = qs.length - 1 := by simp
    obtain ⟨i0, hi0, _, hi1, _⟩ := info_parts cellQ.info
    have esl : ∀ w : World, (Instr.slice 31 (.slice (some ⟨b, o, none⟩) qs.length c) (some (.int .i64 1)) none none).run Tryz.prog w = .ok (.slice (cutAt (some ⟨b, o, none⟩) c 1) (qs.length - 1) (c - 1)) w :=
      fun w => run_slice_from (P := Tryz.prog) Tryz.underlying31 hi0 hi1 (some ⟨b, o, none⟩) qs.length c 1 (by omega) w
    go_enter Tryz.func92, Tryz.ntmps92
    rw [Nat.add_zero] at hcell
    have hlt := World.block_lt_of_cell? w _ hcell
    have hcl : ∀ w' : World, Below w.heap.size w w' → w'.cell? ⟨b, o, none⟩ = some (.slice A1 l.length c1) := fun w' h => (h.cell (p := ⟨b, o, none⟩) hlt).trans hcell
    have HC := Lib.hid hcl
    have HKb := Lib.hid (Blk.new w 40 zeroR)
    have hc0 := hcl _ b0
    clear hcl hcell hrd hv hlt hi0 hi1
    go_upto_region 3 with fail
    go_region_with (first
      | (go_at_call 144; refine (copied_any (W := w) (n := qs.length - 1) (by omega) HL1.out (by first | exact HR1.out.below b0.drew | exact HR1.out.below hBO) (by first | exact b0.drew | exact hBO)).mono ?_; rintro e wR ⟨AR, cR, rfl, hoR, hBR, hbR⟩
         have HKb := Lib.hid (show Blk wR w.heap.size 40 zeroR by first | exact HKb.out.drew.below hbR | exact HKb.out.below hbR)
         have hcR := HC.out _ hBR
         obtain ⟨x0, x1, x2, f0, f1, f2⟩ := three HKb.out)
      | (go_at_call 69; refine (clone_any (W := w) hll (by first | exact HRD.out.below b0.drew | exact HRD.out.below hBR) (by first | exact b0.drew | exact hBR)).mono ?_; rintro e wO ⟨AO, cO, rfl, hoO, hBO, hbO⟩
         have HKb := Lib.hid (show Blk wO w.heap.size 40 zeroR by first | exact HKb.out.drew.below hbO | exact HKb.out.below hbO)
         have hcO := HC.out _ hBO
         obtain ⟨x0, x1, x2, f0, f1, f2⟩ := three HKb.out))
    all_goals go_wp2
    all_goals
      obtain ⟨k1, k2, k3⟩ := put3 HKb.out (.int .i64 0) (.slice AO l.length cO) (.int .i64 0)
      refine bodyPost_ret (results_tmp_cell_row rfl _ _ _ _ _ _ rfl k1 Tryz.underlying40 rfl (by kernel_rfl)) rfl ?_
      have h3 := k2 w (Nat.le_refl _) hBO
      exact ⟨AR, cR, AO, cO, by rw [htl]; rfl, (hoR.below hbO).put3 HKb.out (by decide) (by decide) _ _ _, k3 _ _ _ _ _ _ hoO (by decide), h3, h3⟩
theorem pop_any {W w : World} {qs : List (List Nat)} {A : Option Addr} {n c B : Nat} (hn : n ≤ 100000) (hc : n ≤ c) (hL : LimL qs) (hr : RdQ w B A n qs) (hB : Below W.heap.size W w) :
    Calls Tryz.prog 92 #[.slice A n c] w (GotQR W w qs.tail (popE qs) (popV qs) 0) :=
  (pop_raw hn hc hL hr).mono fun e w' h => GotQR.of hB h
end Go.Proofs.YthfnnieklkaefaaGreat

namespace Go.Proofs.YthfnnieklkaefaaGreat
open Go.RowKit
set_option linter.unusedVariables false
set_option maxHeartbeats 1000000 in
set_option maxRecDepth 100000 in
theorem eachQ_raw (qs : List (List Nat)) (A : Option Addr) (n c B : Nat) (hn : n ≤ 100000) (hL : LimL qs) (w : World) (hr : RdQ w B A n qs) :
    Calls Tryz.prog 138 #[.slice A n c, .func (.func 69) #[] #[]] w (GotQ w w qs) := by
  have HL := Lib.hid hL
  have HR := Lib.hid hr.fit
  have hlen := hr.length
  obtain ⟨i0, hi0, hi1, hi2, hi3⟩ := info_parts cellQ.info
  clear hr hL
  go_enter Tryz.func138, Tryz.ntmps138
  go_wp2_with (first
    | (at_make
       refine wpList_make_own w rfl _ _ 31 rfl w.heap.size 24 i0 _ 1 Tryz.underlying31 hi0 hi1 hi2 _ _ _ n rfl rfl rfl (by rw [hi3]; omega) (by unfold maxLen; omega) (Nat.le_refl _) ?_
       intro w0 hown0 hg0)
    | fail)
  go_loopw [5, 7, 13] (fun s5 _ s13 wr => ∃ (k c' : Nat) (A' : Option Addr), k ≤ n ∧ s13 = .int .i64 (k : Int) ∧ s5 = .slice A' k c' ∧ Hid (OwnQ w wr A' k c' (qs.take k)) ∧ Hid (Below w.heap.size w wr)) (fun _ _ s13 _ => n - (intOf s13).toNat)
  case atStart => exact ⟨0, _, _, Nat.zero_le _, rfl, rfl, Lib.hid ⟨[], hown0, by simpa using Owns.nil w w0⟩, Lib.hid ((Below.refl _ _).grown hg0 (Nat.le_refl _) (fun k hk => by cases hk))⟩
  case round =>
    obtain ⟨k, c', A', hk, rfl, rfl, HO, HB⟩ := hrel
    by_cases hlt : k < n
    · obtain ⟨b, o, l, A1, c1, rfl, hl, hcell, hrd⟩ := (HR.out.below HB.out).at hlt
      have hll : Lim 0 l.length := HL.out l (List.mem_of_getElem? hl)
      have HRD := Lib.hid hrd
      have HLL := Lib.hid hl
      clear hrd hl
      go_wp2_with (first
        | (go_at_call 69; refine (clone_any (W := w) hll HRD.out HB.out).mono ?_; rintro e w1 ⟨A2, c2, rfl, ho2, hB2, hb2⟩; obtain ⟨vs, hv1, hv2⟩ := HO.out.below hb2)
        | (at_builtin
           refine wpList_append_cells (W := w) cellQ (.tmp 17) (.tmp 21) rfl (by rfl) rfl (ownsRow_below hv1 ((Below.refl _ _).alloc (Nat.le_refl _) _)) rfl (Rd.oneV _ _ _) (by intro u hu; simp at hu; subst hu; rfl) (by omega) (by omega) (hB2.alloc hB2.size _) ?_
           intro A3 c3 w3 hown3 hB3 hg3)
        | fail)
      go_roundw
      case rel =>
        refine ⟨k + 1, c3, A3, by omega, by go_num, rfl, Lib.hid ?_, Lib.hid hB3⟩
        have b1 : Below w1.heap.size w1 (w1.alloc (.cells #[.slice A2 l.length c2] 24)) := (Below.refl _ _).alloc (Nat.le_refl _) _
        refine ⟨vs ++ [.slice A2 l.length c2], hown3, ?_⟩
        rw [List.take_add_one, HLL.out]
        exact ((hv2.snoc ho2).below b1).grown (ownsRow_below hv1 b1) hg3
      case measure => simp only [intOf]; omega
    · obtain rfl : k = n := by omega
      go_wp2_with fail
      go_ret
      have HO2 := HO.out
      rw [List.take_of_length_le (by omega)] at HO2
      subst hlen
      exact ⟨A', c', rfl, HO2, HB.out, HB.out⟩
theorem eachQ_any {W w : World} {qs : List (List Nat)} {A : Option Addr} {n c B : Nat} (hn : n ≤ 100000) (hL : LimL qs) (hr : RdQ w B A n qs) (hB : Below W.heap.size W w) :
    Calls Tryz.prog 138 #[.slice A n c, .func (.func 69) #[] #[]] w (GotQ W w qs) :=
  (eachQ_raw qs A n c B hn hL w hr).mono fun e w' h => GotQ.of hB h
/-- a pair of the call's own -/
def GotPair (W w : World) (p : Pr) (e : Ending) (w' : World) : Prop := ∃ A1 c1 A2 c2, e = .returned (.agg #[.slice A1 p.1.length c1, .slice A2 p.2.length c2]) ∧ OwnB W w' A1 p.1.length c1 p.1 ∧ OwnB W w' A2 p.2.length c2 p.2 ∧ Below W.heap.size W w' ∧ Below w.heap.size w w'
set_option maxHeartbeats 2000000 in
set_option maxRecDepth 100000 in
theorem pairCopied_raw (w : World) {A1 A2 : Option Addr} {c1 c2 B : Nat} {p : Pr} (hl1 : Lim 0 p.1.length) (hl2 : Lim 0 p.2.length) (h1 : Rd w B A1 p.1.length (bv p.1)) (h2 : Rd w B A2 p.2.length (bv p.2)) :
    Calls Tryz.prog 141 #[.agg #[.slice A1 p.1.length c1, .slice A2 p.2.length c2]] w (GotPair w w p) := by
  obtain ⟨g, hg⟩ : ∃ g, w.heap.size = g := ⟨_, rfl⟩
  obtain ⟨wz, hwz⟩ : ∃ wz, (w.alloc (.cells #[.slice A1 p.1.length c1, .slice A2 p.2.length c2] 86)).alloc (.cells #[.slice none 0 0, .slice none 0 0] 86) = wz := ⟨_, rfl⟩
  have hbz : Below w.heap.size w wz := by rw [← hwz]; exact ((Below.refl _ _).alloc (Nat.le_refl _) _).alloc (by simp) _
  have HR1 := Lib.hid (h1.fit.below hbz).fit
  have HR2 := Lib.hid (h2.fit.below hbz).fit
  have HBZ := Lib.hid hbz
  have HW := Lib.hid hwz
  have HG := Lib.hid hg
  have HV : Hid (Blk wz g 86 #[.slice A1 p.1.length c1, .slice A2 p.2.length c2] ∧ Blk wz (g + 1) 86 #[.slice none 0 0, .slice none 0 0]) := Lib.hid (by
    subst hg
    rw [← hwz]
    refine ⟨(Blk.new _ _ _).alloc _, ?_⟩
    have := Blk.new (w.alloc (.cells #[.slice A1 p.1.length c1, .slice A2 p.2.length c2] 86)) 86 #[.slice none 0 0, .slice none 0 0]
    rwa [World.size_alloc] at this)
  clear hbz h1 h2 hwz hg
  go_enter Tryz.func141, Tryz.ntmps141
  go_upto_region 1 with fail
  rw [HG.out]
  rw [HW.out]
  have m1 : (⟨g + 1, 0, none⟩ : Addr).block < wz.heap.size := HV.out.2.lt
  refine region_T (n := 7) (S := fun w' => Below wz.heap.size wz w') (by kernel_rfl) ?_
  have hS0 : Below wz.heap.size wz wz.drew := (Below.refl _ _).drew
  generalize wz.drew = w4 at hS0 ⊢
  have hS := Lib.hid hS0
  clear hS0 m1
  refine AnyT.take (i := 0) (v := .pointer (some ⟨g, 0, none⟩)) rfl (by kernel_rfl) (by kernel_rfl) (by kernel_rfl) (by kernel_rfl) (fun _ _ _ h => h) (Or.inl ⟨by kernel_rfl, fun w _ => by go_simp⟩) hS.out ?_
  refine AnyT.take (i := 3) (v := .pointer (some ⟨g, 1, none⟩)) rfl (by kernel_rfl) (by kernel_rfl) (by kernel_rfl) (by kernel_rfl) (fun _ _ _ h => h) (Or.inl ⟨by kernel_rfl, fun w _ => by go_simp⟩) hS.out ?_
  refine AnyT.take (i := 1) (v := .slice A1 p.1.length c1) rfl (by kernel_rfl) (by kernel_rfl) (by kernel_rfl) (by kernel_rfl) (fun _ _ _ h => h) (Or.inl ⟨by kernel_rfl, fun w h => by have q := (Below.cell h (p := ⟨g, 0, none⟩) HV.out.1.lt).trans (HV.out.1.cell 0); go_simp⟩) hS.out ?_
  refine AnyT.take (i := 4) (v := .slice A2 p.2.length c2) rfl (by kernel_rfl) (by kernel_rfl) (by kernel_rfl) (by kernel_rfl) (fun _ _ _ h => h) (Or.inl ⟨by kernel_rfl, fun w h => by have q := (Below.cell h (p := ⟨g, 1, none⟩) HV.out.1.lt).trans (HV.out.1.cell 1); go_simp⟩) hS.out ?_
  refine AnyT.ready (rs := [2]) (by kernel_rfl) (by simp) ?_
  refine AllT.cons rfl (fun K hK => ?_) AllT.nil
  go_simp
  refine (clone_any (W := wz) hl1 (HR1.out.below hS.out) hS.out).mono ?_
  rintro e w5 ⟨A5, c5, rfl, ho5, hB5, hb5⟩
  have hS := Lib.hid (hS.out.trans (hb5.mono hS.out.size))
  go_simp
  refine hK.out _ _ (Or.inr (hS.out)) (fun _ => ?_)
  clear hK K
  refine AnyT.ready (rs := [5]) (by kernel_rfl) (by simp) ?_
  refine AllT.cons rfl (fun K hK => ?_) AllT.nil
  go_simp
  refine (clone_any (W := wz) hl2 (HR2.out.below hS.out) hS.out).mono ?_
  rintro e w6 ⟨A6, c6, rfl, ho6, hB6, hb6⟩
  have hS := Lib.hid (hS.out.trans (hb6.mono hS.out.size))
  have ho5 := own_below ho5 hb6
  have HK := Lib.hid (HV.out.2.below hS.out)
  have f0 := HK.out.frozen 0
  have f1 := HK.out.frozen 1
  have x0 := HK.out.cell 0
  have x1 := HK.out.cell 1
  go_simp
  refine hK.out _ _ (Or.inr (hS.out)) (fun _ => ?_)
  clear hK K
  refine AnyT.take (i := 6) (v := .agg #[.slice A5 p.1.length c5, .slice A6 p.2.length c6]) rfl (by kernel_rfl) (by kernel_rfl) (by kernel_rfl) (by kernel_rfl) (fun _ _ _ h => h) (Or.inl ⟨by kernel_rfl, fun w _ => by go_simp⟩) hS.out ?_
  refine AnyT.ready (rs := [7]) (by kernel_rfl) (by simp) ?_
  refine AllT.cons rfl (fun K hK => ?_) AllT.nil
  go_simp
  refine hK.out _ _ (Or.inl rfl) (fun _ => ?_)
  clear hK K
  refine AnyT.done (by kernel_rfl) ?_ _
  go_wp2_with fail
  have k1 := (HK.out.set_ 0 (.slice A5 p.1.length c5)).set_ 1 (.slice A6 p.2.length c6)
  refine bodyPost_ret (results_cell_row rfl _ _ _ _ _ _ _ rfl k1 Tryz.underlying86 rfl (by kernel_rfl)) rfl ?_
  have hwb : w.heap.size ≤ g + 1 := by have := HG.out; omega
  have hw : Below w.heap.size w w6 := HBZ.out.trans (hS.out.mono HBZ.out.size)
  have h3 : Below w.heap.size w ((w6.setCell ⟨g + 1, 0, none⟩ (.slice A5 p.1.length c5)).setCell ⟨g + 1, 1, none⟩ (.slice A6 p.2.length c6)) := (hw.setCell (p := ⟨g + 1, 0, none⟩) hwb _).setCell (p := ⟨g + 1, 1, none⟩) hwb _
  exact ⟨A5, c5, A6, c6, rfl, more_ HBZ.out.size (own_set_t (own_set_t ho5 HK.out (by decide)) (HK.out.set_ 0 _) (by decide)), more_ HBZ.out.size (own_set_t (own_set_t ho6 HK.out (by decide)) (HK.out.set_ 0 _) (by decide)), h3, h3⟩
theorem pairCopied_any {W w : World} {A1 A2 : Option Addr} {c1 c2 B : Nat} {p : Pr} (hl1 : Lim 0 p.1.length) (hl2 : Lim 0 p.2.length) (h1 : Rd w B A1 p.1.length (bv p.1)) (h2 : Rd w B A2 p.2.length (bv p.2)) (hB : Below W.heap.size W w) :
    Calls Tryz.prog 141 #[.agg #[.slice A1 p.1.length c1, .slice A2 p.2.length c2]] w (GotPair W w p) :=
  (pairCopied_raw w hl1 hl2 h1 h2).mono fun e w' ⟨A1, c1, A2, c2, h1, h2, h3, h4, h5⟩ => ⟨A1, c1, A2, c2, h1, more_ hB.size h2, more_ hB.size h3, hB.trans (h4.mono hB.size), h5⟩
set_option maxHeartbeats 2000000 in
set_option maxRecDepth 100000 in
theorem eachP_raw (ps : List Pr) (A : Option Addr) (n c B : Nat) (hn : n ≤ 100000) (hL : LimP ps) (w : World) (hr : RdP w B A n ps) :
    Calls Tryz.prog 140 #[.slice A n c, .func (.func 141) #[] #[]] w (GotP w w ps) := by
  have HL := Lib.hid hL
  have HR := Lib.hid hr.fit
  have hlen := hr.length
  obtain ⟨i0, hi0, hi1, hi2, hi3⟩ := info_parts cellP.info
  clear hr hL
  go_enter Tryz.func140, Tryz.ntmps140
  go_wp2_with (first
    | (at_make
       refine wpList_make_own w rfl _ _ 32 rfl w.heap.size 86 i0 _ 2 Tryz.underlying32 hi0 hi1 hi2 _ _ _ n rfl rfl rfl (by rw [hi3]; omega) (by unfold maxLen; omega) (Nat.le_refl _) ?_
       intro w0 hown0 hg0)
    | fail)
  clear hi0 hi1 hi2 hi3
  obtain ⟨g, hg⟩ : ∃ g, w.heap.size = g := ⟨_, rfl⟩
  have HB00 := Lib.hid ((Below.refl w.heap.size w).grown hg0 (Nat.le_refl _) (fun k hk => by cases hk))
  have HO00 : Hid (OwnP w w0 (some ⟨g, 0, none⟩) 0 n []) := Lib.hid ⟨[], by rw [← hg]; exact hown0, Owns.nil w w0⟩
  clear hown0 hg0
  rw [hg]
  have HG := Lib.hid hg
  clear hg
  go_loopw [5, 7, 13] (fun s5 s7 s13 wr => ∃ (k : Nat), k ≤ n ∧ s13 = .int .i64 (k : Int) ∧ s5 = .slice (some ⟨g, 0, none⟩) k n ∧ Hid (OwnP w wr (some ⟨g, 0, none⟩) k n (ps.take k)) ∧ Hid (Below w.heap.size w wr)) (fun _ _ s13 _ => n - (intOf s13).toNat)
  case atStart => exact ⟨0, Nat.zero_le _, rfl, rfl, Lib.hid (by simpa using HO00.out), HB00⟩
  case round =>
    obtain ⟨k, hk, rfl, rfl, HO, HB⟩ := hrel
    by_cases hlt : k < n
    · obtain ⟨b, o, p, A1, c1, A2, c2, rfl, hp, hcell1, hcell2, hrd1, hrd2⟩ := ((HR.out.below HB.out).fit).at hlt
      have hl1 : Lim 0 p.1.length := (HL.out p (List.mem_of_getElem? hp)).1
      have hl2 : Lim 0 p.2.length := (HL.out p (List.mem_of_getElem? hp)).2
      have b0 : Below wr.heap.size wr (wr.alloc (.cells #[.slice A1 p.1.length c1, .slice A2 p.2.length c2] 86)) := (Below.refl _ _).alloc (Nat.le_refl _) _
      have HC := Lib.hid (pairCopied_any (W := w) (c1 := c1) (c2 := c2) hl1 hl2 (hrd1.below b0) (hrd2.below b0) (HB.out.trans (b0.mono HB.out.size)))
      have HB0 := Lib.hid b0
      have HP := Lib.hid hp
      clear hrd1 hrd2 hp b0
      go_wp2_with (first
        | (go_at_call 141; refine HC.out.mono ?_; rintro e w1 ⟨A4, c4, A5, c5, rfl, ho1, ho2, hB2, hb2⟩; obtain ⟨vs, hv1, hv2⟩ := HO.out.below (HB0.out.trans (hb2.mono HB0.out.size)))
        | (at_builtin
           refine wpList_append_fits (W := w) cellP (.tmp 17) (.tmp 21) rfl (by rfl) rfl (ownsRow_below hv1 ((Below.refl _ _).alloc (Nat.le_refl _) _)) rfl (Rd.twoAt _ _ _ _ rfl) (by intro u hu; simp at hu; rcases hu with rfl | rfl <;> rfl) (by omega) (by omega) (hB2.alloc hB2.size _) ?_
           intro w3 hown3 hB3 hg3)
        | fail)
      go_roundw
      case rel =>
        refine ⟨k + 1, by omega, by go_num, rfl, Lib.hid ?_, Lib.hid hB3⟩
        have b1 : Below w1.heap.size w1 (w1.alloc (.cells #[.slice A4 p.1.length c4, .slice A5 p.2.length c5] 86)) := (Below.refl _ _).alloc (Nat.le_refl _) _
        refine ⟨vs ++ [.slice A4 p.1.length c4, .slice A5 p.2.length c5], hown3, ?_⟩
        rw [List.take_add_one, HP.out, flat_append]
        exact ((hv2.two ho1 ho2).below b1).grownP (ownsRow_below hv1 b1) hg3
      case measure => simp only [intOf]; omega
    · obtain rfl : k = n := by omega
      go_wp2_with fail
      go_ret
      have HO2 := HO.out
      rw [List.take_of_length_le (by omega)] at HO2
      subst hlen
      exact ⟨_, _, rfl, HO2, HB.out, HB.out⟩
theorem eachP_any {W w : World} {ps : List Pr} {A : Option Addr} {n c B : Nat} (hn : n ≤ 100000) (hL : LimP ps) (hr : RdP w B A n ps) (hB : Below W.heap.size W w) :
    Calls Tryz.prog 140 #[.slice A n c, .func (.func 141) #[] #[]] w (GotP W w ps) :=
  (eachP_raw ps A n c B hn hL w hr).mono fun e w' h => GotP.of hB h
end Go.Proofs.YthfnnieklkaefaaGreat

namespace Go.Proofs.YthfnnieklkaefaaGreat
open Go.RowKit
set_option linter.unusedVariables false
def TakeC : Prop := ∀ {W w : World} {zs : List Int} {A : Option Addr} {n c B : Nat} (x : Int), n ≤ 100000 → n ≤ c → Rd w B A n (iv zs) → Below W.heap.size W w →
    Calls Tryz.prog 93 #[.slice A n c, .int .i64 x] w (GotIR W w (takeS zs x) (takeE zs x) (takeN zs x))
def FreeC : Prop := ∀ {W w : World} {zs : List Int} {A : Option Addr} {n c B : Nat} (x : Int), n ≤ 100000 → n ≤ c → zs.Nodup → Rd w B A n (iv zs) → Below W.heap.size W w →
    Calls Tryz.prog 94 #[.slice A n c, .int .i64 x] w (GotIR W w (zs.erase x) (freeE zs x) (freeN zs x))
def OwnerC : Prop := ∀ {W w : World} {zs : List Int} {A : Option Addr} {n c B : Nat}, n ≤ 100000 → n ≤ c → Rd w B A n (iv zs) → Below W.heap.size W w →
    Calls Tryz.prog 95 #[.slice A n c] w (GotR W w (ownerE zs) [] (ownerN zs))
end Go.Proofs.YthfnnieklkaefaaGreat

namespace Go.Proofs.YthfnnieklkaefaaGreat
open Go.RowKit
set_option linter.unusedVariables false
/-- integers that a call made -/
def GotI (W w : World) (l : List Int) (en : Ending) (w' : World) : Prop :=
  ∃ A c, en = .returned (.slice A l.length c) ∧ OwnI W w' A l.length c l ∧ Below W.heap.size W w' ∧ Below w.heap.size w w'
theorem GotI.of {W w w' : World} {l : List Int} {en : Ending} (hB : Below W.heap.size W w) (h : GotI w w l en w') : GotI W w l en w' := by
  obtain ⟨A, c, h1, h2, h3, h4⟩ := h
  exact ⟨A, c, h1, own_of hB.size h2, hB.trans (h3.mono hB.size), h4⟩
set_option maxRecDepth 100000 in
theorem cloneI_raw {w : World} {zs : List Int} {A : Option Addr} {n c B : Nat} (hn : n ≤ 100000) (hr : Rd w B A n (iv zs)) :
    Calls Tryz.prog 139 #[.slice A n c] w (GotI w w zs) := by
  have H := Lib.hid hr.fit
  have hB0 : Below w.heap.size w w := Below.refl _ _
  obtain rfl : zs.length = n := by have := hr.1; rwa [iv_length] at this
  cases A with
  | none =>
    have h0 : zs.length = 0 := by
      rcases Nat.eq_zero_or_pos zs.length with h | h
      · exact h
      · obtain ⟨b, o, h1, _⟩ := hr.2 h
        cases h1
    have hl : zs = [] := List.eq_nil_of_length_eq_zero h0
    subst hl
    clear hr H h0
    have he : ∀ (w : World) (n : Nat), (binOp .eql 22 (.slice none n c) (.slice none 0 0)).run Tryz.prog w = .ok (.bool true) w := fun _ _ => rfl
    go_enter Tryz.func139, Tryz.ntmps139
    go_wp2
    go_ret
    exact ⟨none, 0, rfl, ownI_nil _ _, hB0, hB0⟩
  | some a =>
    clear hr
    have he : ∀ (w : World) (n : Nat), (binOp .eql 22 (.slice (some a) n c) (.slice none 0 0)).run Tryz.prog w = .ok (.bool false) w := fun _ _ => rfl
    go_enter Tryz.func139, Tryz.ntmps139
    go_wp2_with (first
      | (at_builtin
         refine wpList_append_cells (W := w) cellI (.tmp 5) (.tmp 6) rfl (by rfl) rfl (ownI_empty hB0) rfl (H.out.below (hB0.alloc (Nat.le_refl _) _)) (iv_one _) (by omega) (by omega) (hB0.alloc (Nat.le_refl _) _) ?_
         intro A1 c1 w1 hown1 hB1 hg1
         simp only [Nat.zero_add] at hown1)
      | fail)
    go_ret
    exact ⟨A1, c1, rfl, hown1, hB1, hB1⟩
theorem cloneI_any {W w : World} {zs : List Int} {A : Option Addr} {n c B : Nat} (hn : n ≤ 100000) (hr : Rd w B A n (iv zs)) (hB : Below W.heap.size W w) :
    Calls Tryz.prog 139 #[.slice A n c] w (GotI W w zs) :=
  (cloneI_raw hn hr).mono fun e w' h => GotI.of hB h
theorem index_any (w : World) {A : Option Addr} {n c B : Nat} {zs : List Int} (x : Int) (h : Rd w B A n (iv zs)) (hn : n ≤ maxLen) :
    Calls Tryz.prog 152 #[.slice A n c, .int .i64 x] w fun e w' => e = .returned (.int .i64 (placeI zs x)) ∧ w = w' := by
  have hl : zs.length = n := by have := h.1; rwa [iv_length] at this
  unfold maxLen at hn
  have HN : Hid (n ≤ 9223372036854775807) := Lib.hid (by omega)
  have HL := Lib.hid hl
  have H := Lib.hid h
  clear h hl hn
  go_enter Tryz.func152, Tryz.ntmps152
  go_wp2
  go_loopw [8] (fun i wr => ∃ k : Nat, k ≤ n ∧ i = .int .i64 k ∧ Hid (∀ j, j < k → zs[j]? ≠ some x) ∧ w = wr) (fun i _ => n - (intOf i).toNat)
  case atStart => exact ⟨0, Nat.zero_le _, rfl, Lib.hid (fun j hj => absurd hj (by omega)), rfl⟩
  case round =>
    obtain ⟨k, hk, rfl, HS, rfl⟩ := hrel
    by_cases hlt : k < n
    · obtain ⟨z, hz⟩ : ∃ z, zs[k]? = some z := ⟨_, List.getElem?_eq_getElem (by have := HL.out; omega)⟩
      obtain ⟨b, o, rfl, _⟩ := H.out.int_at hlt
      have hc := H.out.int_cell hlt hz
      have hv : IntKind.i64.wrap ((k : Int) + 1) = (k : Int) + 1 := IntWalk.i64_in _ (by have := HN.out; omega)
      have HZ := Lib.hid hz
      clear hz
      by_cases he : z = x
      · subst he
        have HP := Lib.hid (place_first HZ.out HS.out)
        go_wp2
        go_ret
        exact ⟨ret_int HP.out.symm, rfl⟩
      · have he' : (x == z) = false := by simpa using fun h => he h.symm
        have HE := Lib.hid he
        clear he
        go_wp2
        go_roundw
        case rel =>
          refine ⟨k + 1, by omega, by go_num, Lib.hid (fun j hj => ?_), trivial⟩
          rcases Nat.lt_or_ge j k with h1 | h1
          · exact HS.out j h1
          · obtain rfl : j = k := by omega
            rw [HZ.out]
            intro h; injection h with h; exact HE.out h
        case measure => simp [intOf]; omega
    · obtain rfl : k = n := by omega
      have HP := Lib.hid (place_none (s := zs) (x := x) (by rw [HL.out]; exact HS.out))
      go_wp2
      go_ret
      exact ⟨ret_int HP.out.symm, rfl⟩
theorem contains_any (w : World) {A : Option Addr} {n c B : Nat} {zs : List Int} (x : Int) (h : Rd w B A n (iv zs)) (hn : n ≤ maxLen) :
    Calls Tryz.prog 108 #[.slice A n c, .int .i64 x] w fun e w' => e = .returned (.bool (decide (x ∈ zs))) ∧ w = w' := by
  have H := Lib.hid h
  clear h
  by_cases hx : x ∈ zs
  · obtain ⟨k, hk, hk1, _⟩ := place_lt hx
    have h0 : (0 : Int) ≤ (k : Int) := by omega
    have HP := Lib.hid hk
    rw [decide_eq_true hx]
    clear hk hx
    go_enter Tryz.func108, Tryz.ntmps108
    go_wp2_with (first
      | (go_at_call 152; refine (index_any _ x H.out hn).mono ?_; rintro e w2 ⟨rfl, rfl⟩; rw [HP.out])
      | fail)
    go_ret
    exact ⟨rfl, rfl⟩
  · have HP := Lib.hid (place_no hx)
    rw [decide_eq_false hx]
    clear hx
    go_enter Tryz.func108, Tryz.ntmps108
    go_wp2_with (first
      | (go_at_call 152; refine (index_any _ x H.out hn).mono ?_; rintro e w2 ⟨rfl, rfl⟩; rw [HP.out])
      | fail)
    go_ret
    exact ⟨rfl, rfl⟩
/-- those that are not x -/
def noX (zs : List Int) (x : Int) : List Int := zs.filter (fun z => !(z == x))
set_option maxRecDepth 100000 in
theorem without_raw {w : World} {zs : List Int} {A : Option Addr} {n c B : Nat} (x : Int) (hn : n ≤ 100000) (hr : Rd w B A n (iv zs)) :
    Calls Tryz.prog 145 #[.slice A n c, .int .i64 x] w (GotI w w (noX zs x)) := by
  have HR := Lib.hid hr.fit
  have hl : zs.length = n := by have := hr.1; rwa [iv_length] at this
  have HL := Lib.hid hl
  obtain ⟨i0, hi0, hi1, hi2, hi3⟩ := info_parts cellI.info
  clear hr hl
  go_enter Tryz.func145, Tryz.ntmps145
  go_wp2_with (first
    | (at_make
       refine wpList_make_own w rfl _ _ 22 rfl w.heap.size 3 i0 _ 1 Tryz.underlying22 hi0 hi1 hi2 _ _ _ n rfl rfl (by rfl) (by rw [hi3]; omega) (by unfold maxLen; omega) (Nat.le_refl _) ?_
       intro w0 hown0 hg0)
    | fail)
  go_loopw [5, 13] (fun s5 s13 wr => ∃ (k m c' : Nat) (A' : Option Addr), k ≤ n ∧ m ≤ k ∧ s13 = .int .i64 (k : Int) ∧ s5 = .slice A' m c' ∧ Hid (OwnI w wr A' m c' (noX (zs.take k) x)) ∧ Hid (Below w.heap.size w wr)) (fun _ s13 _ => n - (intOf s13).toNat)
  case atStart => exact ⟨0, 0, _, _, Nat.zero_le _, Nat.zero_le _, rfl, rfl, Lib.hid hown0, Lib.hid ((Below.refl _ _).grown hg0 (Nat.le_refl _) (fun k hk => by cases hk))⟩
  case round =>
    obtain ⟨k, m, c', A', hk, hmk, rfl, rfl, HO, HB⟩ := hrel
    by_cases hlt : k < n
    · obtain ⟨z, hz⟩ : ∃ z, zs[k]? = some z := ⟨_, List.getElem?_eq_getElem (by have := HL.out; omega)⟩
      obtain ⟨b, o, rfl, _⟩ := (HR.out.below HB.out).int_at hlt
      have hc := (HR.out.below HB.out).int_cell hlt hz
      have hv : IntKind.i64.wrap ((k : Int) + 1) = (k : Int) + 1 := IntWalk.i64_in _ (by omega)
      have HZ := Lib.hid hz
      clear hz
      by_cases he : z = x
      · subst he
        go_wp2_with fail
        go_roundw
        case rel =>
          refine ⟨k + 1, m, c', A', by omega, by omega, by go_num, rfl, Lib.hid ?_, HB⟩
          have h := HO.out
          rw [show noX (zs.take (k + 1)) z = noX (zs.take k) z by rw [List.take_add_one, HZ.out]; simp [noX]]
          exact h
        case measure => simp only [intOf]; omega
      · have he' : (z == x) = false := by simpa using he
        have HE := Lib.hid he'
        go_wp2_with (first
          | (at_builtin
             refine wpList_append_cells (W := w) cellI (.tmp 20) (.tmp 22) rfl (by rfl) rfl (ownsRow_below HO.out ((Below.refl _ _).alloc (Nat.le_refl _) _)) rfl (Rd.oneV _ _ _) (by intro u hu; simp at hu; subst hu; rfl) (by omega) (by omega) (HB.out.alloc HB.out.size _) ?_
             intro A3 c3 w3 hown3 hB3 hg3)
          | fail)
        go_roundw
        case rel =>
          refine ⟨k + 1, m + 1, c3, A3, by omega, by omega, by go_num, rfl, Lib.hid ?_, Lib.hid hB3⟩
          rw [show noX (zs.take (k + 1)) x = noX (zs.take k) x ++ [z] by rw [List.take_add_one, HZ.out]; simp [noX, HE.out]]
          unfold OwnI
          rw [show iv (noX (zs.take k) x ++ [z]) = iv (noX (zs.take k) x) ++ [Value.int .i64 z] by simp [iv]]
          exact hown3
        case measure => simp only [intOf]; omega
    · obtain rfl : k = n := by omega
      go_wp2_with fail
      go_ret
      have HO2 := HO.out
      rw [List.take_of_length_le (by have := HL.out; omega)] at HO2
      obtain rfl := ownI_len HO2
      exact ⟨A', c', rfl, HO2, HB.out, HB.out⟩
theorem without_any {W w : World} {zs : List Int} {A : Option Addr} {n c B : Nat} (x : Int) (hn : n ≤ 100000) (hr : Rd w B A n (iv zs)) (hB : Below W.heap.size W w) :
    Calls Tryz.prog 145 #[.slice A n c, .int .i64 x] w (GotI W w (noX zs x)) :=
  (without_raw x hn hr).mono fun e w' h => GotI.of hB h
end Go.Proofs.YthfnnieklkaefaaGreat

namespace Go.Proofs.YthfnnieklkaefaaGreat
open Go.RowKit
set_option linter.unusedVariables false
theorem nox_erase {zs : List Int} (x : Int) (h : zs.Nodup) : noX zs x = zs.erase x := by
  unfold noX
  rw [List.Nodup.erase_eq_filter h]
  rfl
set_option maxHeartbeats 1000000 in
set_option maxRecDepth 100000 in
theorem take_raw {w : World} {zs : List Int} {A : Option Addr} {n c B : Nat} (x : Int) (hn : n ≤ 100000) (hr : Rd w B A n (iv zs)) :
    Calls Tryz.prog 93 #[.slice A n c, .int .i64 x] w (GotIR w w (takeS zs x) (takeE zs x) (takeN zs x)) := by
  have hB := Below.refl w.heap.size w
  have HR := Lib.hid hr.fit
  obtain rfl : zs.length = n := by have := hr.1; rwa [iv_length] at this
  have b0 : Below w.heap.size w (w.alloc (.cells zeroR 40)) := (Below.refl _ _).alloc (Nat.le_refl _) _
  clear hr
  unfold takeS takeE takeN
  by_cases hx : x ∈ zs
  · rw [if_pos hx, if_pos hx, if_pos hx]
    have HX := Lib.hid (decide_eq_true hx)
    clear hx
    go_enter Tryz.func93, Tryz.ntmps93
    go_wp2_with (first
      | (go_at_call 139; refine (cloneI_any (W := w) hn (HR.out.below b0) b0).mono ?_; rintro e w1 ⟨A1, c1, rfl, hown1, hB1, hb1⟩
         have HK := Lib.hid ((Blk.new w 40 zeroR).below hb1); obtain ⟨x0, x1, x2, f0, f1, f2⟩ := three HK.out)
      | (go_at_call 108; refine (contains_any _ x (HR.out.below hB1) (by unfold maxLen; omega)).mono ?_; rintro e w2 ⟨rfl, rfl⟩; rw [HX.out])
      | fail)
    obtain ⟨k1, k2, k3⟩ := put3 HK.out (.int .i64 6) (.slice none 0 0) (.int .i64 0)
    refine bodyPost_ret (results_tmp_cell_row rfl _ _ _ _ _ _ rfl k1 Tryz.underlying40 rfl (by kernel_rfl)) rfl ?_
    have h3 := k2 w (Nat.le_refl _) hB1
    exact ⟨A1, c1, none, 0, rfl, k3 _ _ _ _ _ _ hown1 (by decide), own_nil _ _, h3, h3⟩
  · rw [if_neg hx, if_neg hx, if_neg hx]
    have HX := Lib.hid (decide_eq_false hx)
    clear hx
    by_cases hf : 5 ≤ zs.length
    · rw [if_pos hf, if_pos hf, if_pos hf]
      have hfi : (5 : Int) ≤ (zs.length : Int) := by omega
      go_enter Tryz.func93, Tryz.ntmps93
      go_wp2_with (first
      | (go_at_call 139; refine (cloneI_any (W := w) hn (HR.out.below b0) b0).mono ?_; rintro e w1 ⟨A1, c1, rfl, hown1, hB1, hb1⟩
         have HK := Lib.hid ((Blk.new w 40 zeroR).below hb1); obtain ⟨x0, x1, x2, f0, f1, f2⟩ := three HK.out)
      | (go_at_call 108; refine (contains_any _ x (HR.out.below hB1) (by unfold maxLen; omega)).mono ?_; rintro e w2 ⟨rfl, rfl⟩; rw [HX.out])
      | fail)
      obtain ⟨k1, k2, k3⟩ := put3 HK.out (.int .i64 3) (.slice none 0 0) (.int .i64 0)
      refine bodyPost_ret (results_tmp_cell_row rfl _ _ _ _ _ _ rfl k1 Tryz.underlying40 rfl (by kernel_rfl)) rfl ?_
      have h3 := k2 w (Nat.le_refl _) hB1
      exact ⟨A1, c1, none, 0, rfl, k3 _ _ _ _ _ _ hown1 (by decide), own_nil _ _, h3, h3⟩
    · rw [if_neg hf, if_neg hf, if_neg hf]
      have hfi : ¬ (5 : Int) ≤ (zs.length : Int) := by omega
      go_enter Tryz.func93, Tryz.ntmps93
      go_wp2_with (first
      | (go_at_call 139; refine (cloneI_any (W := w) hn (HR.out.below b0) b0).mono ?_; rintro e w1 ⟨A1, c1, rfl, hown1, hB1, hb1⟩
         have HK := Lib.hid ((Blk.new w 40 zeroR).below hb1))
      | (go_at_call 108; refine (contains_any _ x (HR.out.below hB1) (by unfold maxLen; omega)).mono ?_; rintro e w2 ⟨rfl, rfl⟩; rw [HX.out])
      | (at_builtin
         refine wpList_append_cells (W := w) cellI (.tmp 19) (.tmp 21) rfl (by rfl) rfl (ownsRow_below hown1 ((Below.refl _ _).alloc (Nat.le_refl _) _)) rfl (Rd.oneV _ _ _) (by intro u hu; simp at hu; subst hu; rfl) (by omega) (by omega) (hB1.alloc hB1.size _) ?_
         intro A3 c3 w3 hown3 hB3 hg3
         have HK3 := Lib.hid ((HK.out.alloc (.cells #[.int .i64 x] 3)).apart_own (ownsRow_below hown1 ((Below.refl _ _).alloc (Nat.le_refl _) _)) (by decide) hg3)
         obtain ⟨x0, x1, x2, f0, f1, f2⟩ := three HK3.out
         clear hg3)
      | fail)
      obtain ⟨k1, k2, k3⟩ := put3 HK3.out (.int .i64 0) (.slice none 0 0) (.int .i64 (zs.length : Int))
      refine bodyPost_ret (results_tmp_cell_row rfl _ _ _ _ _ _ rfl k1 Tryz.underlying40 rfl (by kernel_rfl)) rfl ?_
      have h3 := k2 w (Nat.le_refl _) hB3
      have e : (zs ++ [x]).length = zs.length + 1 := by simp
      have h4 := k3 _ _ _ _ _ _ hown3 (by decide)
      rw [show iv zs ++ [Value.int .i64 x] = iv (zs ++ [x]) by simp [iv]] at h4
      exact ⟨A3, c3, none, 0, by rw [e]; rfl, by rw [e]; exact h4, own_nil _ _, h3, h3⟩
theorem take_any : TakeC := fun x hn hc hr hB => (take_raw x hn hr).mono fun e w' h => GotIR.of hB h
set_option maxHeartbeats 1000000 in
set_option maxRecDepth 100000 in
theorem free_raw {w : World} {zs : List Int} {A : Option Addr} {n c B : Nat} (x : Int) (hn : n ≤ 100000) (hd : zs.Nodup) (hr : Rd w B A n (iv zs)) :
    Calls Tryz.prog 94 #[.slice A n c, .int .i64 x] w (GotIR w w (zs.erase x) (freeE zs x) (freeN zs x)) := by
  have hB := Below.refl w.heap.size w
  have HR := Lib.hid hr.fit
  obtain rfl : zs.length = n := by have := hr.1; rwa [iv_length] at this
  have b0 : Below w.heap.size w (w.alloc (.cells zeroR 40)) := (Below.refl _ _).alloc (Nat.le_refl _) _
  clear hr
  have HNX := Lib.hid (nox_erase x hd)
  clear hd
  unfold freeE freeN
  by_cases hx : x ∈ zs
  · rw [if_pos hx, if_pos hx]
    have hl : (zs.erase x).length = zs.length - 1 := List.length_erase_of_mem hx
    have hp : 0 < zs.length := List.length_pos_of_mem hx
    obtain ⟨L, hL⟩ : ∃ L, zs.erase x = L := ⟨_, rfl⟩
    rw [hL] at hl HNX ⊢
    have HL := Lib.hid hl
    have hne : ((L.length : Int) == (zs.length : Int)) = false := by rw [beq_eq_false_iff_ne]; omega
    clear hx hL hl hp
    rcases Nat.eq_zero_or_pos L.length with h0 | h0
    · have hz : L = [] := List.eq_nil_of_length_eq_zero h0
      subst hz
      have hne0 : ((0 : Int) == (zs.length : Int)) = false := hne
      clear h0
      go_enter Tryz.func94, Tryz.ntmps94
      go_wp2_with (first
        | (go_at_call 145; refine (without_any (W := w) x hn (HR.out.below b0) b0).mono ?_; rw [HNX.out]; rintro e w1 ⟨A1, c1, rfl, hown1, hB1, hb1⟩
           have HK := Lib.hid ((Blk.new w 40 zeroR).below hb1); obtain ⟨x0, x1, x2, f0, f1, f2⟩ := three HK.out)
        | fail)
      obtain ⟨k1, k2, k3⟩ := put3 HK.out (.int .i64 0) (.slice none 0 0) (.int .i64 (-1))
      refine bodyPost_ret (results_tmp_cell_row rfl _ _ _ _ _ _ rfl k1 Tryz.underlying40 rfl (by kernel_rfl)) rfl ?_
      have h3 := k2 w (Nat.le_refl _) hB1
      exact ⟨none, 0, none, 0, rfl, ownI_nil _ _, own_nil _ _, h3, h3⟩
    · obtain ⟨z, hz⟩ : ∃ z, L[0]? = some z := ⟨_, List.getElem?_eq_getElem h0⟩
      have hv : L.head?.getD (-1) = z := by rw [List.head?_eq_getElem?, hz]; rfl
      rw [hv]
      have hne2 : ((L.length : Int) == 0) = false := by rw [beq_eq_false_iff_ne]; omega
      have HZ := Lib.hid hz
      clear hv hz
      go_enter Tryz.func94, Tryz.ntmps94
      go_wp2_with (first
        | (go_at_call 145; refine (without_any (W := w) x hn (HR.out.below b0) b0).mono ?_; rw [HNX.out]; rintro e w1 ⟨A1, c1, rfl, hown1, hB1, hb1⟩
           have HK := Lib.hid ((Blk.new w 40 zeroR).below hb1); obtain ⟨x0, x1, x2, f0, f1, f2⟩ := three HK.out
           have HOW := Lib.hid hown1; obtain ⟨g, rfl, hg1, hg2⟩ := own_addr hown1 h0; have hcl := (hown1.cellAt 0 (by omega)).trans (iv_get HZ.out); clear hown1 hg1 hg2)
        | fail)
      go_region
      all_goals go_wp2
      obtain ⟨k1, k2, k3⟩ := put3 HK.out (.int .i64 0) (.slice none 0 0) (.int .i64 z)
      refine bodyPost_ret (results_tmp_cell_row rfl _ _ _ _ _ _ rfl k1.drew Tryz.underlying40 rfl (by kernel_rfl)) rfl ?_
      have h3 := (k2 w (Nat.le_refl _) hB1).drew
      exact ⟨some ⟨g, 0, none⟩, c1, none, 0, rfl, k3 _ _ _ _ _ _ HOW.out (by decide), own_nil _ _, h3, h3⟩
  · rw [if_neg hx, if_neg hx]
    rw [List.erase_of_not_mem hx] at HNX ⊢
    clear hx
    go_enter Tryz.func94, Tryz.ntmps94
    go_wp2_with (first
      | (go_at_call 145; refine (without_any (W := w) x hn (HR.out.below b0) b0).mono ?_; rw [HNX.out]; rintro e w1 ⟨A1, c1, rfl, hown1, hB1, hb1⟩
         have HK := Lib.hid ((Blk.new w 40 zeroR).below hb1); obtain ⟨x0, x1, x2, f0, f1, f2⟩ := three HK.out)
      | fail)
    obtain ⟨k1, k2, k3⟩ := put3 HK.out (.int .i64 5) (.slice none 0 0) (.int .i64 0)
    refine bodyPost_ret (results_tmp_cell_row rfl _ _ _ _ _ _ rfl k1 Tryz.underlying40 rfl (by kernel_rfl)) rfl ?_
    have h3 := k2 w (Nat.le_refl _) hB1
    exact ⟨A1, c1, none, 0, rfl, k3 _ _ _ _ _ _ hown1 (by decide), own_nil _ _, h3, h3⟩
theorem free_any : FreeC := fun x hn hc hd hr hB => (free_raw x hn hd hr).mono fun e w' h => GotIR.of hB h
theorem owner_raw (w : World) {zs : List Int} {A : Option Addr} {n c B : Nat} (hr : Rd w B A n (iv zs)) :
    Calls Tryz.prog 95 #[.slice A n c] w fun en w' => en = .returned (resV (ownerE zs) none 0 0 (ownerN zs)) ∧ Below w.heap.size w w' := by
  obtain rfl : zs.length = n := by have := hr.1; rwa [iv_length] at this
  unfold ownerE ownerN
  have b0 : Below w.heap.size w (w.alloc (.cells zeroR 40)) := (Below.refl _ _).alloc (Nat.le_refl _) _
  rcases Nat.eq_zero_or_pos zs.length with h0 | h0
  · have hz : zs = [] := List.eq_nil_of_length_eq_zero h0
    subst hz
    rw [if_pos h0]
    clear h0 hr
    go_enter Tryz.func95, Tryz.ntmps95
    go_wp2
    refine bodyPost_ret (results_cell_row rfl _ _ _ _ _ _ _ rfl (Blk.new w 40 #[.int .i64 5, .slice none 0 0, .int .i64 0]) Tryz.underlying40 rfl (by kernel_rfl)) rfl ?_
    exact ⟨rfl, (Below.refl _ _).alloc (Nat.le_refl _) _⟩
  · rw [if_neg (by omega)]
    have hne : ((zs.length : Int) == 0) = false := by rw [beq_eq_false_iff_ne]; omega
    obtain ⟨z, hz⟩ : ∃ z, zs[0]? = some z := ⟨_, List.getElem?_eq_getElem h0⟩
    obtain ⟨b, o, rfl, _⟩ := hr.int_at h0
    have hc := hr.int_cell h0 hz
    have hv : zs.head?.getD 0 = z := by rw [List.head?_eq_getElem?, hz]; rfl
    rw [hv]
    rw [Nat.add_zero] at hc
    have hc0 := (b0.cell (p := ⟨b, o, none⟩) (World.block_lt_of_cell? _ _ hc)).trans hc
    clear hv hz hc hr
    go_enter Tryz.func95, Tryz.ntmps95
    go_wp2
    refine bodyPost_ret (results_cell_row rfl _ _ _ _ _ _ _ rfl (Blk.new w 40 #[.int .i64 0, .slice none 0 0, .int .i64 z]) Tryz.underlying40 rfl (by kernel_rfl)) rfl ?_
    exact ⟨rfl, (Below.refl _ _).alloc (Nat.le_refl _) _⟩
theorem owner_any : OwnerC := fun hn hc hr hB => (owner_raw _ hr).mono fun e w' h => ⟨none, 0, h.1, own_nil _ _, hB.trans (h.2.mono hB.size), h.2⟩
end Go.Proofs.YthfnnieklkaefaaGreat

namespace Go.Proofs.YthfnnieklkaefaaGreat
open Go.RowKit
set_option linter.unusedVariables false
/-- objects of the call's own -/
def GotObj (W w : World) (s : Ob) (e : Ending) (w' : World) : Prop := ∃ a, e = .returned (objV a s) ∧ OwnO W w' a s ∧ Below W.heap.size W w' ∧ Below w.heap.size w w'
set_option maxHeartbeats 4000000 in
set_option maxRecDepth 100000 in
theorem copied8_raw {w : World} {a : OA} {s : Ob} {B : Nat} (hI : s.Inv) (h : RdO w B a s) : Calls Tryz.prog 84 #[objV a s] w (GotObj w w s) := by
  obtain ⟨A0, c0, A1, c1, A2, c2, A3, c3⟩ := a
  obtain ⟨g, hg⟩ : ∃ g, w.heap.size = g := ⟨_, rfl⟩
  obtain ⟨wz, hwz⟩ : ∃ wz, (w.alloc (.cells (objC ⟨A0, c0, A1, c1, A2, c2, A3, c3⟩ s) 34)).alloc (.cells #[.slice none 0 0, .slice none 0 0, .slice none 0 0, .slice none 0 0] 34) = wz := ⟨_, rfl⟩
  have hbz : Below w.heap.size w wz := by rw [← hwz]; exact ((Below.refl _ _).alloc (Nat.le_refl _) _).alloc (by simp) _
  have H := Lib.hid ((h.fit.below hbz).fit)
  have HI := Lib.hid hI
  have HBZ := Lib.hid hbz
  have HW := Lib.hid hwz
  have HG := Lib.hid hg
  have HV : Hid (Blk wz g 34 (objC ⟨A0, c0, A1, c1, A2, c2, A3, c3⟩ s) ∧ Blk wz (g + 1) 34 #[.slice none 0 0, .slice none 0 0, .slice none 0 0, .slice none 0 0]) := Lib.hid (by
    subst hg
    rw [← hwz]
    refine ⟨(Blk.new _ _ _).alloc _, ?_⟩
    have := Blk.new (w.alloc (.cells (objC ⟨A0, c0, A1, c1, A2, c2, A3, c3⟩ s) 34)) 34 #[.slice none 0 0, .slice none 0 0, .slice none 0 0, .slice none 0 0]
    rwa [World.size_alloc] at this)
  have hLr : Lim 0 s.reg.length := by have := hI.reg; unfold Lim; omega
  have hLqn : s.q.length ≤ 100000 := by have := hI.ql; omega
  have hLq : LimL s.q := fun l hl => by have := hI.qv l hl; unfold Lim; omega
  have hll : s.lk.length ≤ 100000 := by have := hI.lkl; omega
  have hLmn : s.mp.length ≤ 100000 := by have := hI.mp.few; omega
  have hLm : LimP s.mp := fun p hp => by have := hI.mp.len p hp; unfold Lim; exact ⟨by omega, by omega⟩
  have HLr := Lib.hid hLr
  have HLqn := Lib.hid hLqn
  have HLq := Lib.hid hLq
  have Hll := Lib.hid hll
  have HLmn := Lib.hid hLmn
  have HLm := Lib.hid hLm
  clear hbz h hI hwz hg hLr hLqn hLq hll hLmn hLm
  unfold objV
  simp only [objC] at HW ⊢
  go_enter Tryz.func84, Tryz.ntmps84
  go_upto_region 1 with fail
  rw [HG.out]
  rw [HW.out]
  refine region_T (n := 13) (S := fun w' => Below wz.heap.size wz w') (by kernel_rfl) ?_
  have hS0 : Below wz.heap.size wz wz.drew := (Below.refl _ _).drew
  generalize wz.drew = w4 at hS0 ⊢
  have hS := Lib.hid hS0
  clear hS0
  refine AnyT.take (i := 0) (v := .pointer (some ⟨g, 0, none⟩)) rfl (by kernel_rfl) (by kernel_rfl) (by kernel_rfl) (by kernel_rfl) (fun _ _ _ h => h) (Or.inl ⟨by kernel_rfl, fun w _ => by go_simp⟩) hS.out ?_
  refine AnyT.take (i := 3) (v := .pointer (some ⟨g, 1, none⟩)) rfl (by kernel_rfl) (by kernel_rfl) (by kernel_rfl) (by kernel_rfl) (fun _ _ _ h => h) (Or.inl ⟨by kernel_rfl, fun w _ => by go_simp⟩) hS.out ?_
  refine AnyT.take (i := 6) (v := .pointer (some ⟨g, 2, none⟩)) rfl (by kernel_rfl) (by kernel_rfl) (by kernel_rfl) (by kernel_rfl) (fun _ _ _ h => h) (Or.inl ⟨by kernel_rfl, fun w _ => by go_simp⟩) hS.out ?_
  refine AnyT.take (i := 9) (v := .pointer (some ⟨g, 3, none⟩)) rfl (by kernel_rfl) (by kernel_rfl) (by kernel_rfl) (by kernel_rfl) (fun _ _ _ h => h) (Or.inl ⟨by kernel_rfl, fun w _ => by go_simp⟩) hS.out ?_
  refine AnyT.take (i := 1) (v := .slice A0 s.reg.length c0) rfl (by kernel_rfl) (by kernel_rfl) (by kernel_rfl) (by kernel_rfl) (fun _ _ _ h => h) (Or.inl ⟨by kernel_rfl, fun w h => by have q := (Below.cell h (p := ⟨g, 0, none⟩) HV.out.1.lt).trans (HV.out.1.cell 0); simp only [objC] at q; go_simp⟩) hS.out ?_
  refine AnyT.take (i := 4) (v := .slice A1 s.q.length c1) rfl (by kernel_rfl) (by kernel_rfl) (by kernel_rfl) (by kernel_rfl) (fun _ _ _ h => h) (Or.inl ⟨by kernel_rfl, fun w h => by have q := (Below.cell h (p := ⟨g, 1, none⟩) HV.out.1.lt).trans (HV.out.1.cell 1); simp only [objC] at q; go_simp⟩) hS.out ?_
  refine AnyT.take (i := 7) (v := .slice A2 s.lk.length c2) rfl (by kernel_rfl) (by kernel_rfl) (by kernel_rfl) (by kernel_rfl) (fun _ _ _ h => h) (Or.inl ⟨by kernel_rfl, fun w h => by have q := (Below.cell h (p := ⟨g, 2, none⟩) HV.out.1.lt).trans (HV.out.1.cell 2); simp only [objC] at q; go_simp⟩) hS.out ?_
  refine AnyT.take (i := 10) (v := .slice A3 s.mp.length c3) rfl (by kernel_rfl) (by kernel_rfl) (by kernel_rfl) (by kernel_rfl) (fun _ _ _ h => h) (Or.inl ⟨by kernel_rfl, fun w h => by have q := (Below.cell h (p := ⟨g, 3, none⟩) HV.out.1.lt).trans (HV.out.1.cell 3); simp only [objC] at q; go_simp⟩) hS.out ?_
  refine AnyT.ready (rs := [2]) (by kernel_rfl) (by simp) ?_
  refine AllT.cons rfl (fun K hK => ?_) AllT.nil
  go_simp
  refine (clone_any (W := wz) (l := s.reg) HLr.out (H.out.r0.below hS.out) hS.out).mono ?_
  rintro e w5 ⟨A5, c5, rfl, ho5, hB5, hb5⟩
  have hS := Lib.hid (hS.out.trans (hb5.mono hS.out.size))
  go_simp
  refine hK.out _ _ (Or.inr (hS.out)) (fun _ => ?_)
  clear hK K
  refine AnyT.ready (rs := [5]) (by kernel_rfl) (by simp) ?_
  refine AllT.cons rfl (fun K hK => ?_) AllT.nil
  go_simp
  refine (eachQ_any (W := wz) (qs := s.q) HLqn.out HLq.out (H.out.r1.below hS.out) hS.out).mono ?_
  rintro e w6 ⟨A6, c6, rfl, ho6, hB6, hb6⟩
  have hS := Lib.hid (hS.out.trans (hb6.mono hS.out.size))
  have ho5 := own_below ho5 hb6
  go_simp
  refine hK.out _ _ (Or.inr (hS.out)) (fun _ => ?_)
  clear hK K
  refine AnyT.ready (rs := [8]) (by kernel_rfl) (by simp) ?_
  refine AllT.cons rfl (fun K hK => ?_) AllT.nil
  go_simp
  refine (cloneI_any (W := wz) (zs := s.lk) Hll.out (H.out.r2.below hS.out) hS.out).mono ?_
  rintro e w7 ⟨A7, c7, rfl, ho7, hB7, hb7⟩
  have hS := Lib.hid (hS.out.trans (hb7.mono hS.out.size))
  have ho5 := own_below ho5 hb7
  have ho6 := ho6.below hb7
  go_simp
  refine hK.out _ _ (Or.inr (hS.out)) (fun _ => ?_)
  clear hK K
  refine AnyT.ready (rs := [11]) (by kernel_rfl) (by simp) ?_
  refine AllT.cons rfl (fun K hK => ?_) AllT.nil
  go_simp
  refine (eachP_any (W := wz) (ps := s.mp) HLmn.out HLm.out (H.out.r3.below hS.out) hS.out).mono ?_
  rintro e w8 ⟨A8, c8, rfl, ho8, hB8, hb8⟩
  have hS := Lib.hid (hS.out.trans (hb8.mono hS.out.size))
  have ho5 := own_below ho5 hb8
  have ho6 := ho6.below hb8
  have ho7 := ownsRow_below ho7 hb8
  have HK := Lib.hid (HV.out.2.below hS.out)
  obtain ⟨x0, x1, x2, x3, f0, f1, f2, f3⟩ := four HK.out
  go_simp
  refine hK.out _ _ (Or.inr (hS.out)) (fun _ => ?_)
  clear hK K
  refine AnyT.take (i := 12) (v := .agg #[.slice A5 s.reg.length c5, .slice A6 s.q.length c6, .slice A7 s.lk.length c7, .slice A8 s.mp.length c8]) rfl (by kernel_rfl) (by kernel_rfl) (by kernel_rfl) (by kernel_rfl) (fun _ _ _ h => h) (Or.inl ⟨by kernel_rfl, fun w _ => by go_simp⟩) hS.out ?_
  refine AnyT.ready (rs := [13]) (by kernel_rfl) (by simp) ?_
  refine AllT.cons rfl (fun K hK => ?_) AllT.nil
  go_simp
  refine hK.out _ _ (Or.inl rfl) (fun _ => ?_)
  clear hK K
  refine AnyT.done (by kernel_rfl) ?_ _
  go_wp2_with fail
  have k1 := HK.out.set_ 0 (.slice A5 s.reg.length c5)
  have k2 := k1.set_ 1 (.slice A6 s.q.length c6)
  have k3 := k2.set_ 2 (.slice A7 s.lk.length c7)
  have k4 := k3.set_ 3 (.slice A8 s.mp.length c8)
  refine bodyPost_ret (results_cell_row rfl _ _ _ _ _ _ _ rfl k4 Tryz.underlying34 rfl (by kernel_rfl)) rfl ?_
  have q1 : 5 ≠ 34 := by decide
  have q2 : 24 ≠ 34 := by decide
  have q3 : 3 ≠ 34 := by decide
  have q4 : 86 ≠ 34 := by decide
  have ho : OwnO wz w8 ⟨A5, c5, A6, c6, A7, c7, A8, c8⟩ s := ⟨ho5, ho6, ho7, ho8⟩
  have hwb : w.heap.size ≤ g + 1 := by have := HG.out; omega
  have hw : Below w.heap.size w w8 := HBZ.out.trans (hS.out.mono HBZ.out.size)
  have h3 : Below w.heap.size w ((((w8.setCell ⟨g + 1, 0, none⟩ (.slice A5 s.reg.length c5)).setCell ⟨g + 1, 1, none⟩ (.slice A6 s.q.length c6)).setCell ⟨g + 1, 2, none⟩ (.slice A7 s.lk.length c7)).setCell ⟨g + 1, 3, none⟩ (.slice A8 s.mp.length c8)) := (((hw.setCell (p := ⟨g + 1, 0, none⟩) hwb _).setCell (p := ⟨g + 1, 1, none⟩) hwb _).setCell (p := ⟨g + 1, 2, none⟩) hwb _).setCell (p := ⟨g + 1, 3, none⟩) hwb _
  exact ⟨⟨A5, c5, A6, c6, A7, c7, A8, c8⟩, rfl, ((((ho.set_t HK.out q1 q2 q3 q4).set_t k1 q1 q2 q3 q4).set_t k2 q1 q2 q3 q4).set_t k3 q1 q2 q3 q4).of HBZ.out.size, h3, h3⟩
theorem copied8 {W w : World} {a : OA} {s : Ob} {B : Nat} (hI : s.Inv) (h : RdO w B a s) (hB : Below W.heap.size W w) : Calls Tryz.prog 84 #[objV a s] w (GotObj W w s) :=
  (copied8_raw hI h).mono fun e w' ⟨a, h1, h2, h3, h4⟩ => ⟨a, h1, h2.of hB.size, hB.trans (h3.mono hB.size), h4⟩
end Go.Proofs.YthfnnieklkaefaaGreat

