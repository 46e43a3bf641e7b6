/- MachEntry PackWalks PackRdr PackIn MachPut CloneKit MachPut2 EntKit MachOnceMath -/
import Derived.Test.YthfnnieklkaefaaGreatR01
import Derived.Test.YthfnnieklkaefaaGreatR03
import Derived.Test.YthfnnieklkaefaaGreatR06
import Derived.Below
import Derived.Deep.RegionWith
import Derived.IntWalk
import Derived.Laws.BitsAllLaws
import Derived.Outline
import Derived.OwnWalk
import Derived.ProofKit
import Derived.WalkKit
import Derived.WalkLawsBesides
import Derived.WalkSpells
import Derived.RegionTactic
import Derived.Deep.RegionHeld3
import Derived.Deep.RegionLaw
namespace Go.Proofs.YthfnnieklkaefaaGreat
open Go.RowKit
set_option linter.unusedVariables false
/-- cells none of which is a byte -/
def NoByte (cs : Array Value) : Prop := ∀ (j x : Nat), cs[j]? ≠ some (.int .u8 (x : Int))
theorem NoByte.set {cs : Array Value} (h : NoByte cs) (i : Nat) {u : Value} (hu : ∀ x : Nat, u ≠ .int .u8 (x : Int)) : NoByte (cs.setIfInBounds i u) := by
  intro j x
  rw [Array.getElem?_setIfInBounds]
  split
  · split
    · intro h2; injection h2 with h2; exact hu x h2
    · simp
  · exact h j x
/-- a row of bytes lies not in a block without bytes -/
theorem Rd.setK {w : World} {B : Nat} {A : Option Addr} {n b i : Nat} {u : Value} {t : TypeId} {cs : Array Value} {l : List Nat} (h : Rd w B A n (bv l)) (hb : Blk w b t cs) (hk : NoByte cs) : Rd (w.setCell ⟨b, i, none⟩ u) (w.setCell ⟨b, i, none⟩ u).heap.size A n (bv l) := by
  rcases Nat.eq_zero_or_pos n with rfl | hn
  · exact ⟨h.1, fun h0 => absurd h0 (by omega)⟩
  · obtain ⟨g, o, rfl, hg, hc⟩ := h.2 hn
    refine h.set_ne ?_
    rintro rfl
    have h0 := hc 0 hn
    rw [hb.cell] at h0
    have hl : 0 < l.length := by have := h.1; rw [bv_length] at this; omega
    have h1 : (bv l)[0]? = some (.int .u8 (l[0] : Nat)) := by unfold bv; simp [List.getElem?_eq_getElem hl]
    rw [h1] at h0
    exact hk _ _ h0
theorem RdC.setK {w : World} {B b i : Nat} {u : Value} {t : TypeId} {cs : Array Value} {a : CA} {c : Cm} (h : RdC w B a c) (hb : Blk w b t cs) (hk : NoByte cs) : RdC (w.setCell ⟨b, i, none⟩ u) (w.setCell ⟨b, i, none⟩ u).heap.size a c :=
  ⟨h.rk.setK hb hk, h.rv.setK hb hk, h.ro.setK hb hk⟩
theorem noInt (z : Int) : ∀ x : Nat, Value.int .i64 z ≠ .int .u8 (x : Int) := fun x h => by cases h
theorem noSlice (A : Option Addr) (n c : Nat) : ∀ x : Nat, Value.slice A n c ≠ .int .u8 (x : Int) := fun x h => by cases h
theorem noByte_ent (s q k w : Int) (A A' A'' : Option Addr) (n c n' c' n'' c'' : Nat) : NoByte #[.int .i64 s, .int .i64 q, .int .i64 k, .int .i64 w, .slice A n c, .slice A' n' c', .slice A'' n'' c''] := by
  intro j x h
  match j with
  | 0 => simp at h
  | 1 => simp at h
  | 2 => simp at h
  | 3 => simp at h
  | 4 => simp at h
  | 5 => simp at h
  | 6 => simp at h
  | j + 7 => simp at h
set_option maxHeartbeats 1000000 in
/-- an entry's variable is written whole -/
theorem put7 {w : World} {b : Nat} {x0 x1 x2 x3 : Int} {A A' A'' : Option Addr} {n c n' c' n'' c'' : Nat} (hk : Blk w b 28 #[.int .i64 x0, .int .i64 x1, .int .i64 x2, .int .i64 x3, .slice A n c, .slice A' n' c', .slice A'' n'' c'']) (a : CA) (e : En) {B : Nat} (hr : RdC w B a e.c) :
    let wy := (((((((w.setCell ⟨b, 0, none⟩ (.int .i64 e.s)).setCell ⟨b, 1, none⟩ (.int .i64 e.q)).setCell ⟨b, 2, none⟩ (.int .i64 e.c.kind)).setCell ⟨b, 3, none⟩ (.int .i64 e.c.who)).setCell ⟨b, 4, none⟩ (.slice a.Ak e.c.key.length a.ck)).setCell ⟨b, 5, none⟩ (.slice a.Av e.c.val.length a.cv)).setCell ⟨b, 6, none⟩ (.slice a.Ao e.c.old.length a.co))
    Blk wy b 28 (entC a e) ∧ RdC wy wy.heap.size a e.c ∧ ∀ W, W.heap.size ≤ b → Below W.heap.size W w → Below W.heap.size W wy := by
  intro wy
  have k0 := noByte_ent x0 x1 x2 x3 A A' A'' n c n' c' n'' c''
  have b1 := hk.set_ 0 (.int .i64 e.s); have k1 := k0.set 0 (noInt e.s)
  have b2 := b1.set_ 1 (.int .i64 e.q); have k2 := k1.set 1 (noInt e.q)
  have b3 := b2.set_ 2 (.int .i64 e.c.kind); have k3 := k2.set 2 (noInt e.c.kind)
  have b4 := b3.set_ 3 (.int .i64 e.c.who); have k4 := k3.set 3 (noInt e.c.who)
  have b5 := b4.set_ 4 (.slice a.Ak e.c.key.length a.ck); have k5 := k4.set 4 (noSlice a.Ak e.c.key.length a.ck)
  have b6 := b5.set_ 5 (.slice a.Av e.c.val.length a.cv); have k6 := k5.set 5 (noSlice a.Av e.c.val.length a.cv)
  have b7 := b6.set_ 6 (.slice a.Ao e.c.old.length a.co)
  have r1 := hr.setK (i := 0) (u := .int .i64 e.s) hk k0
  have r2 := r1.setK (i := 1) (u := .int .i64 e.q) b1 k1
  have r3 := r2.setK (i := 2) (u := .int .i64 e.c.kind) b2 k2
  have r4 := r3.setK (i := 3) (u := .int .i64 e.c.who) b3 k3
  have r5 := r4.setK (i := 4) (u := .slice a.Ak e.c.key.length a.ck) b4 k4
  have r6 := r5.setK (i := 5) (u := .slice a.Av e.c.val.length a.cv) b5 k5
  have r7 := r6.setK (i := 6) (u := .slice a.Ao e.c.old.length a.co) b6 k6
  exact ⟨b7, r7, fun W h1 h2 => ((((((h2.setCell h1 _).setCell h1 _).setCell h1 _).setCell h1 _).setCell h1 _).setCell h1 _).setCell h1 _⟩
theorem entryZ_any (n : Int) (i : Nat) (hi : i ≤ 100) (w : World) : Calls Tryz.prog 8 #[.int .i64 n, .int .i64 (i : Int)] w fun e w' => ∃ ca en, e = .returned (entV ca en) ∧ en.c.Fits ∧ RdC w' w'.heap.size ca en.c ∧ ca.Z ∧ Below w.heap.size w w' := by
  have hb0 : Below w.heap.size w (w.alloc (.cells #[.int .i64 0, .int .i64 0, .int .i64 0, .int .i64 0, .slice none 0 0, .slice none 0 0, .slice none 0 0] 28)) := (Below.refl _ _).alloc (Nat.le_refl _) _
  have HB0 := Lib.hid hb0
  have HK := Lib.hid (Blk.new w 28 #[.int .i64 0, .int .i64 0, .int .i64 0, .int .i64 0, .slice none 0 0, .slice none 0 0, .slice none 0 0])
  clear hb0
  go_enter Tryz.func8, Tryz.ntmps8
  go_wp2_with fail
  refine (cmdZ_any n _).mono ?_
  rintro e w1 ⟨ca, c, rfl, hf, hr, hz, hb⟩
  have HZ := Lib.hid hz
  clear hz
  have HK1 := Lib.hid (HK.out.below hb)
  have HB1 := Lib.hid (HB0.out.trans (hb.mono HB0.out.size))
  have HR := Lib.hid hr
  have HF := Lib.hid hf
  clear hb hr hf HK HB0
  obtain ⟨x0, x1, x2, x3, x4, x5, x6⟩ := seven HK1.out
  have f0 := HK1.out.frozen 0
  have f1 := HK1.out.frozen 1
  have f2 := HK1.out.frozen 2
  have f3 := HK1.out.frozen 3
  have f4 := HK1.out.frozen 4
  have f5 := HK1.out.frozen 5
  have f6 := HK1.out.frozen 6
  unfold cmdV cmdC
  go_wp2_with fail
  obtain ⟨p1, p2, p3⟩ := put7 HK1.out ca ⟨_, _, c⟩ HR.out
  refine bodyPost_ret (results_cell_row rfl _ _ _ _ _ _ _ rfl p1 Tryz.underlying28 rfl (by kernel_rfl)) rfl ?_
  exact ⟨ca, ⟨_, _, c⟩, rfl, HF.out, p2, HZ.out, p3 w (Nat.le_refl _) HB1.out⟩
end Go.Proofs.YthfnnieklkaefaaGreat

namespace Go.Proofs.YthfnnieklkaefaaGreat
open Go.RowKit
set_option linter.unusedVariables false

theorem run_max0 {P : Program} (w : World) (ts : Array TypeId) (t : TypeId) (n : Int) :
    (Builtin.max_ ts t #[.int .i64 n, .int .i64 0]).run P w = .ok (.int .i64 (max n 0)) w := by
  have e : max n 0 = if (n : Int) < 0 then 0 else n := by omega
  rw [e]
  simp [Builtin.max_, Builtin.max2]
theorem run_min_top {P : Program} (w : World) (ts : Array TypeId) (t : TypeId) (n : Int) :
    (Builtin.min_ ts t #[.int .i64 (max n 0), .int .i64 4611686018427387904]).run P w = .ok (.int .i64 (Pk.held n : Nat)) w := by
  have e : ((Pk.held n : Nat) : Int) = if (4611686018427387904 : Int) < max n 0 then 4611686018427387904 else max n 0 := by unfold Pk.held Pk.top; omega
  rw [e]
  simp [Builtin.min_, Builtin.min2]
theorem held_any (n : Int) (w : World) :
    Calls Tryz.prog 135 #[.int .i64 n] w fun e w' => e = .returned (.int .i64 (Pk.held n : Nat)) ∧ w = w' := by
  have h1 := fun (w : World) ts t => run_max0 (P := Tryz.prog) w ts t n
  have h2 := fun (w : World) ts t => run_min_top (P := Tryz.prog) w ts t n
  go_enter Tryz.func135, Tryz.ntmps135
  go_wp2
  go_ret
  exact ⟨rfl, rfl⟩
theorem wpList_make_room {P : Program} {t e : TypeId} {W w : World} (hT : ByteT P t e) {ops : Array Oper} {rest : List Oper} {o : Oper} {a : Act} {Q : Exit → Act → World → Prop} (hg : o.guard = none) (l c : Operand)
    (hop : o.op = Op.makeSlice t l c) {C : Int} (hl : a.eval l = .int .i64 0) (hc : a.eval c = .int .i64 C) (n : Nat) (hC : C = (n : Int)) (hn : n ≤ 2199023255552) (hB : Below W.heap.size W w)
    (h : ∀ w2, w2.ownsRow W.heap.size e 1 (.slice (some ⟨w.heap.size, 0, none⟩) 0 n) 0 (bv []) → Below W.heap.size W w2 → wpList P ops Q rest (a.put o.dst (.slice (some ⟨w.heap.size, 0, none⟩) 0 n)) w2) :
    wpList P ops Q (o :: rest) a w := by
  obtain ⟨i, hi, hz, hsz, hby⟩ := info_parts hT.info
  refine wpList_make_own w hg l c t hop W.heap.size e i (.int .u8 0) 1 hT.under hi hz hsz .i64 .i64 C n hl hc hC (by rw [hby]; omega) (by unfold maxLen; omega) hB.size ?_
  intro w2 h2 h3
  exact h w2 h2 (hB.grown h3 hB.size (fun k hk => by cases hk))
theorem withRoom_any (l : List Nat) (A : Option Addr) (n c B : Nat) (room : Int) (hn : Lim 0 n) (h0 : 0 ≤ room) (hm : room ≤ 1099511627776) (w : World) (hr : Rd w B A n (bv l)) :
    Calls Tryz.prog 68 #[.slice A n c, .int .i64 room] w (GotB w l) := by
  obtain ⟨room, rfl⟩ := Int.eq_ofNat_of_zero_le h0
  clear h0
  have hn := hn.out
  have H := Lib.hid hr.fit
  clear hr
  have hB0 : Below w.heap.size w w := Below.refl _ _
  go_enter Tryz.func68, Tryz.ntmps68
  go_wp2_with (first
    | (at_make
       refine wpList_make_room (W := w) byteT rfl _ _ rfl rfl rfl (n + room) (by omega) (by omega) hB0 ?_
       intro w1 hown1 hB1)
    | (at_builtin
       refine wpList_append_bytes (W := w) byteT (.tmp 9) (.tmp 10) rfl (by rfl) rfl hown1 rfl (H.out.below hB1) (by omega) hB1 ?_
       intro A2 c2 w2 hown2 hr2 hB2
       simp only [Nat.zero_add, List.nil_append] at hown2 hr2)
    | fail)
  go_ret
  exact ⟨_, _, _, rfl, hown2, hB2⟩
def PutT (n : Nat) : Prop := n ≤ Pk.top
set_option maxRecDepth 100000 in
theorem put_any (l : List Nat) (A : Option Addr) (n c : Nat) (N : Int) (hn : Lim 20 n) (W w : World) (hown : OwnB W w A n c l) (hB : Below W.heap.size W w) :
    Calls Tryz.prog 155 #[.slice A n c, .int .i64 N] w (GotB W (l ++ Pk.enc (Pk.held N))) := by
  have hT : PutT (Pk.held N) := Pk.held_le N
  have HL := Lib.hid (Pk.enc_length (Pk.held N))
  have HO := Lib.hid hown
  clear hown
  go_enter Tryz.func155, Tryz.ntmps155
  go_wp2_with (go_at_call 135; refine (held_any _ _).mono ?_; rintro e w' ⟨rfl, rfl⟩)
  go_loopw [0, 1] (fun s0 s1 wr => ∃ (m : Nat) (A' : Option Addr) (n' c' : Nat) (l' : List Nat), PutT m ∧ s1 = .int .i64 m ∧ s0 = .slice A' n' c' ∧ OwnB W wr A' n' c' l' ∧ Below W.heap.size W wr ∧ Hid (l' ++ Pk.enc m = l ++ Pk.enc (Pk.held N)) ∧ n' ≤ n + 9)
    (fun _ s1 _ => (intOf s1).toNat)
  case atStart => exact ⟨_, _, _, _, l, hT, rfl, rfl, HO.out, hB, Lib.hid rfl, by omega⟩
  case round =>
    obtain ⟨m, A', n', c', l', hm, rfl, rfl, hown, hB', hl, hn'⟩ := hrel
    by_cases hlt : 128 ≤ m
    · have hm2 : (m : Int) ≤ 4611686018427387904 := by have : m ≤ Pk.top := hm; unfold Pk.top at this; omega
      have HE := Lib.hid (Pk.enc_big hlt hm)
      have hq : PutT (m / 128) := by have : m ≤ Pk.top := hm; exact Nat.le_trans (Nat.div_le_self _ _) this
      have HB := Lib.hid (Pk.enc_length (m / 128))
      go_wp2_with (first
        | (at_builtin
           refine wpList_append_bytes (W := W) byteT (.tmp 9) (.tmp 14) rfl (by rfl) rfl (hown.alloc _) rfl (Rd.oneI wr (x := m % 128 + 128) (by omega) 5) (by have := hn.out; omega) (hB'.alloc hB'.size _) ?_
           intro A1 c1 w1 hown1 hr1 hB1)
        | fail)
      go_roundw
      case rel =>
        have HL' := Lib.hid (congrArg List.length hl.out)
        refine ⟨m / 128, A1, n' + 1, c1, l' ++ [m % 128 + 128], hq, by go_num, rfl, hown1, hB1, Lib.hid ?_, ?_⟩
        · have := hl.out
          rw [HE.out] at this
          rw [← this, List.append_assoc]; rfl
        · have h1 := HL'.out
          have h2 := HL.out
          have h3 := own_len hown
          have h4 := own_len HO.out
          have h5 := HB.out
          rw [HE.out] at h1
          simp only [List.length_append, List.length_cons] at h1
          omega
      case measure => simp [intOf]; omega
    · have HE := Lib.hid (Pk.enc_small (n := m) (by omega))
      have hi : (m : Int) < 128 := by omega
      go_wp2_with (first
        | (at_builtin
           refine wpList_append_bytes (W := W) byteT (.tmp 18) (.tmp 21) rfl (by rfl) rfl (hown.alloc _) rfl (Rd.oneI wr (x := m) (by omega) 5) (by have := hn.out; omega) (hB'.alloc hB'.size _) ?_
           intro A1 c1 w1 hown1 hr1 hB1)
        | fail)
      go_ret
      have h1 := hl.out
      rw [HE.out] at h1
      rw [h1] at hown1
      exact ⟨_, _, _, rfl, hown1, hB1⟩
theorem num_any (l : List Nat) (A : Option Addr) (n c B : Nat) (N : Int) (hn : Lim 20 n) (w : World) (hr : Rd w B A n (bv l)) :
    Calls Tryz.prog 115 #[.slice A n c, .int .i64 N] w (GotB w (l ++ Pk.enc (Pk.held N))) := by
  have hl := hr.length
  have H := Lib.hid hr
  have HL := Lib.hid hl
  clear hr hl
  go_enter Tryz.func115, Tryz.ntmps115
  go_wp2_with fail
  refine (withRoom_any l A n c B 9 (by have := hn.out; unfold Lim; omega) (by omega) (by omega) _ H.out).mono ?_
  rintro e w1 ⟨A1, n1, c1, rfl, hown1, hB1⟩
  have hn1 : Lim 20 n1 := by have := own_len hown1; have := HL.out; have := hn.out; unfold Lim; omega
  go_wp2_with fail
  refine (put_any l A1 n1 c1 N hn1 w w1 hown1 hB1).mono ?_
  rintro e w2 ⟨A2, n2, c2, rfl, hown2, hB2⟩
  go_wp2
  go_ret
  exact ⟨_, _, _, rfl, hown2, hB2⟩
theorem held_len {n : Nat} (h : Lim 20 n) : Pk.held (n : Int) = n := Pk.held_of (by have := h.out; unfold Pk.top; omega)
theorem bytes_any (l x : List Nat) (A : Option Addr) (n c B : Nat) (A' : Option Addr) (n' c' B' : Nat) (hn : Lim 20 n) (hn' : Lim 20 n') (hs : Lim 20 (n + n')) (w : World) (hr : Rd w B A n (bv l)) (hr' : Rd w B' A' n' (bv x)) :
    Calls Tryz.prog 114 #[.slice A n c, .slice A' n' c'] w (GotB w (l ++ Pk.encB x)) := by
  have HL := Lib.hid hr.length
  have HX := Lib.hid hr'.length
  have H := Lib.hid hr
  have H' := Lib.hid hr'.fit
  have HE := Lib.hid (Pk.enc_length n')
  have HD := Lib.hid (held_len hn')
  have hb : (n' : Int) ≤ 1099511627756 := by have := hn'.out; omega
  clear hr hr'
  go_enter Tryz.func114, Tryz.ntmps114
  go_wp2_with fail
  refine (withRoom_any l A n c B (9 + n') (by have := hn.out; unfold Lim; omega) (by omega) (by omega) _ H.out).mono ?_
  rintro e w1 ⟨A1, n1, c1, rfl, hown1, hB1⟩
  have hn1 : Lim 20 n1 := by have := own_len hown1; have := HL.out; have := hn.out; unfold Lim; omega
  have HN1 := Lib.hid (show n1 = n by have := own_len hown1; have := HL.out; omega)
  go_wp2_with fail
  refine (put_any l A1 n1 c1 n' hn1 w w1 hown1 hB1).mono ?_
  rintro e w2 ⟨A2, n2, c2, rfl, hown2, hB2⟩
  have HN2 := Lib.hid (own_len hown2)
  go_wp2_with (first
    | (at_builtin
       refine wpList_append_bytes (W := w) byteT (.tmp 12) (.tmp 13) rfl (by rfl) rfl hown2 rfl (H'.out.below hB2) (by
         have h1 := HN2.out; have h2 := HN1.out; have h3 := HL.out; have h4 := HE.out; have h5 := hs.out
         rw [HD.out, List.length_append] at h1; omega) hB2 ?_
       intro A3 c3 w3 hown3 hr3 hB3)
    | fail)
  go_ret
  refine ⟨_, _, _, rfl, ?_, hB3⟩
  have h6 := hown3
  rw [HD.out] at h6
  unfold Pk.encB
  rw [HX.out, ← List.append_assoc]
  exact h6
/-- a reader at block b: what is left to read, or none -/
def RdrAt (w : World) (b : Nat) (s : Pk.St) : Prop := ∃ A n c, Blk w b 105 #[.slice A n c, .bool s.isNone] ∧ n ≤ c ∧ c ≤ maxLen ∧ Lim 40 n ∧ RdT w 5 A n (bv (s.getD [])) ∧ ∀ x ∈ s.getD [], x < 256
theorem RdrAt.below {w w' : World} {b : Nat} {s : Pk.St} (h : RdrAt w b s) (hb : Below w.heap.size w w') : RdrAt w' b s := by
  obtain ⟨A, n, c, h1, h2, h3, h4, h5, h6⟩ := h
  exact ⟨A, n, c, h1.below hb, h2, h3, h4, h5.below hb, h6⟩
theorem RdrAt.lt {w : World} {b : Nat} {s : Pk.St} (h : RdrAt w b s) : b < w.heap.size := by
  obtain ⟨A, n, c, h1, _⟩ := h
  exact h1.lt
/-- a call that began in W answered a new reader of l -/
def GotRd (W : World) (l : List Nat) (e : Ending) (w' : World) : Prop := ∃ b, e = .returned (.pointer (some ⟨b, 0, none⟩)) ∧ RdrAt w' b (some l) ∧ W.heap.size ≤ b ∧ Below W.heap.size W w'
theorem readP_any (l : List Nat) (A : Option Addr) (n c B : Nat) (hn : Lim 40 n) (hl : ∀ x ∈ l, x < 256) (w : World) (hr : Rd w B A n (bv l)) :
    Calls Tryz.prog 21 #[.slice A n c] w (GotRd w l) := by
  have HL := Lib.hid hr.length
  have H := Lib.hid hr
  have HX := Lib.hid hl
  clear hr hl
  go_enter Tryz.func21, Tryz.ntmps21
  go_wp2_with fail
  refine (withRoom_any l A n c B 0 (by have := hn.out; unfold Lim; omega) (by omega) (by omega) _ H.out).mono ?_
  rintro e w1 ⟨A1, n1, c1, rfl, hown1, hB1⟩
  have hn1 : Lim 40 n1 := by have := own_len hown1; have := HL.out; have := hn.out; unfold Lim; omega
  go_wp2
  go_ret
  exact ⟨w1.heap.size, rfl, ⟨A1, n1, c1, Blk.new _ _ _, (own_cap hown1).1, (own_cap hown1).2, hn1, (RdT.own hown1).alloc _, HX.out⟩, hB1.size, hB1.alloc hB1.size _⟩
theorem run_min9 {P : Program} (w : World) (ts : Array TypeId) (t : TypeId) (n : Nat) :
    (Builtin.min_ ts t #[.int .i64 (n : Int), .int .i64 9]).run P w = .ok (.int .i64 ((min n 9 : Nat) : Int)) w := by
  have e : ((min n 9 : Nat) : Int) = if (9 : Int) < (n : Int) then 9 else (n : Int) := by omega
  rw [e]
  simp [Builtin.min_, Builtin.min2]
theorem i64_or_nat (a b : Nat) (ha : a < 9223372036854775808) (hb : b < 9223372036854775808) : bits .or .i64 (a : Int) (b : Int) = ((a ||| b : Nat) : Int) := by
  show IntKind.i64.wrap ((BitVec.ofInt 64 a ||| BitVec.ofInt 64 b).toNat : Int) = _
  have hlt : a ||| b < 2 ^ 63 := Nat.or_lt_two_pow (by omega) (by omega)
  have e : (BitVec.ofInt 64 a ||| BitVec.ofInt 64 b).toNat = a ||| b := by
    rw [BitVec.toNat_or, BitVec.toNat_ofInt, BitVec.toNat_ofInt]
    have h1 : ((a : Int) % ((2 ^ 64 : Nat) : Int)).toNat = a := by omega
    have h2 : ((b : Int) % ((2 ^ 64 : Nat) : Int)).toNat = b := by omega
    rw [h1, h2]
  rw [e, IntKind.wrap_i64]
  omega
theorem or_group {k acc x : Nat} (hk : k < 9) (ha : acc < 128 ^ k) (hx : x < 256) :
    bits .or .i64 (acc : Int) (wrap64 ((x : Int) % 128 * 2 ^ (7 * k))) = ((acc + x % 128 * 128 ^ k : Nat) : Int) := by
  have e128 : (128 : Nat) ^ k = 2 ^ (7 * k) := by rw [Nat.pow_mul]
  have hp : (128 : Nat) ^ k ≤ 128 ^ 8 := Nat.pow_le_pow_right (by omega) (by omega)
  have hm : x % 128 * 128 ^ k ≤ 127 * 128 ^ k := Nat.mul_le_mul_right _ (by omega)
  have e1 : ((x : Int) % 128 * 2 ^ (7 * k)) = ((x % 128 * 128 ^ k : Nat) : Int) := by rw [e128]; simp
  have e2 : wrap64 ((x : Int) % 128 * 2 ^ (7 * k)) = ((x % 128 * 128 ^ k : Nat) : Int) := by
    rw [e1]
    unfold wrap64
    generalize x % 128 * 128 ^ k = q at hm
    omega
  rw [e2, i64_or_nat _ _ (by omega) (by omega), Nat.or_comm, nat_join (7 * k) _ _ (by rw [e128]; exact Nat.mul_mod_left _ _) (by rw [← e128]; exact ha), Nat.add_comm]
set_option maxRecDepth 100000 in
theorem first_any (l : List Nat) (A : Option Addr) (n c B : Nat) (hl : ∀ x ∈ l, x < 256) (hc : n ≤ c) (hn : Lim 0 n) (w : World) (hr : Rd w B A n (bv l)) :
    Calls Tryz.prog 134 #[.slice A n c] w fun e w' => e = .returned (.tuple #[.int .i64 ((Pk.first l).1 : Nat), .int .i64 ((Pk.first l).2 : Nat)]) ∧ w = w' := by
  have HL := Lib.hid hr.length
  have HX := Lib.hid hl
  obtain ⟨i, hi1, hi2, hi3, hi4⟩ := info_parts byteT.info
  have H9 := Lib.hid (run_slice_to (P := Tryz.prog) (t := 24) byteT.under hi1 A n c (min n 9) (by omega))
  obtain ⟨m, hm1, hm2, hm3, hmin, hsl⟩ : ∃ m : Nat, m ≤ n ∧ m ≤ 9 ∧ (m = n ∨ m = 9) ∧ (∀ (w : World) ts t, (Builtin.min_ ts t #[.int .i64 (n : Int), .int .i64 9]).run Tryz.prog w = .ok (.int .i64 (m : Int)) w) ∧
      ∀ w : World, (Instr.slice 24 (.slice A n c) none (some (.int .i64 (m : Int))) none).run Tryz.prog w = .ok (.slice A m c) w :=
    ⟨min n 9, by omega, by omega, by omega, fun w ts t => run_min9 w ts t n, H9.out⟩
  have H := Lib.hid (hr.take hm1)
  have HM := Lib.hid hm3
  clear hr hl hi1 hi2 hi3 hi4 H9 hm3
  go_enter Tryz.func134, Tryz.ntmps134
  go_wp2_with fail
  go_loop [2, 12] (fun s2 s12 => ∃ (k acc : Nat), k ≤ m ∧ s12 = .int .i64 k ∧ s2 = .int .i64 acc ∧ Hid (Pk.dec k acc (l.drop k) = Pk.first l ∧ acc < 128 ^ k)) (fun _ i => m - (intOf i).toNat)
  case atStart => exact ⟨0, 0, by omega, rfl, rfl, Lib.hid ⟨rfl, by simp⟩⟩
  case round =>
    obtain ⟨k, acc, hk, rfl, rfl, hd⟩ := hrel
    by_cases hlt : k < m
    · have hkl : k < l.length := by have := HL.out; omega
      obtain ⟨b, o, rfl, hk', hcell⟩ := (show Rd w B A m (bv (l.take m)) by rw [bv_take]; exact H.out).bytes_at hlt
      have HT := Lib.hid (show (l.take m)[k] = l[k] by simp)
      rw [HT.out] at hcell
      have hx : l[k] < 256 := HX.out _ (List.getElem_mem hkl)
      obtain ⟨x, hxe⟩ : ∃ x, x = l[k] := ⟨_, rfl⟩
      rw [← hxe] at hcell hx
      have HE := Lib.hid hxe
      clear hxe
      by_cases hbig : 128 ≤ x
      · have HD := Lib.hid (show Pk.dec k acc (l.drop k) = Pk.dec (k + 1) (acc + x % 128 * 128 ^ k) (l.drop (k + 1)) by
          rw [List.drop_eq_getElem_cons hkl, ← HE.out]
          simp only [Pk.dec]
          rw [if_neg (by omega), if_pos hbig])
        go_wp2
        go_round
        case rel =>
          refine ⟨k + 1, acc + x % 128 * 128 ^ k, by omega, by go_num, by rw [or_group (by omega) hd.out.2 hx], Lib.hid ⟨?_, ?_⟩⟩
          · rw [← HD.out]; exact hd.out.1
          · have h1 := hd.out.2
            have h2 : 128 ^ (k + 1) = 128 * 128 ^ k := by rw [Nat.pow_succ, Nat.mul_comm]
            have h3 : x % 128 * 128 ^ k ≤ 127 * 128 ^ k := Nat.mul_le_mul_right _ (by omega)
            omega
        case measure => simp [intOf]; omega
      · by_cases hz : x = 0 ∧ 0 < k
        · have HD := Lib.hid (show Pk.dec k acc (l.drop k) = (0, 0) by
            rw [List.drop_eq_getElem_cons hkl, ← HE.out]
            simp only [Pk.dec]
            rw [if_neg (by omega), if_neg hbig, if_pos hz])
          obtain ⟨rfl, hk0⟩ := hz
          have hk1 : ((k : Int) == 0) = false := by simp; omega
          go_wp2
          go_ret2
          have h1 : Pk.first l = (0, 0) := by rw [← hd.out.1]; exact HD.out
          exact ⟨by rw [h1]; rfl, rfl⟩
        · have HD := Lib.hid (show Pk.dec k acc (l.drop k) = (acc + x * 128 ^ k, k + 1) by
            rw [List.drop_eq_getElem_cons hkl, ← HE.out]
            simp only [Pk.dec]
            rw [if_neg (by omega), if_neg hbig, if_neg hz])
          have HO := Lib.hid (or_group (k := k) (by omega) hd.out.2 hx)
          have hx8 : (x : Int) < 128 := by omega
          have HF := Lib.hid (show (Ending.returned (.tuple #[.int .i64 (bits .or .i64 (acc : Int) (wrap64 ((x : Int) % 128 * 2 ^ (7 * k)))), .int .i64 ((k : Int) + 1)])) = .returned (.tuple #[.int .i64 ((Pk.first l).1 : Nat), .int .i64 ((Pk.first l).2 : Nat)]) by
            have h1 : Pk.first l = (acc + x * 128 ^ k, k + 1) := by rw [← hd.out.1]; exact HD.out
            have h2 : x % 128 = x := by omega
            rw [HO.out, h1, h2]; rfl)
          by_cases hx0 : x = 0
          · have hk0 : ¬ (0 < (k : Int)) := by omega
            have hz0 : ((x : Int) == 0) = true := by simp; omega
            clear hx0 hz hd HD HO
            go_wp2
            go_ret2
            exact ⟨HF.out, rfl⟩
          · have hz0 : ((x : Int) == 0) = false := by simp; omega
            clear hx0 hz hd HD HO
            go_wp2
            go_ret2
            exact ⟨HF.out, rfl⟩
    · have HD := Lib.hid (show Pk.dec k acc (l.drop k) = (0, 0) by
        rcases HM.out with h | h
        · rw [List.drop_of_length_le (by have := HL.out; omega)]; rfl
        · rcases Nat.lt_or_ge k l.length with h2 | h2
          · rw [List.drop_eq_getElem_cons h2]
            simp only [Pk.dec]
            rw [if_pos (by omega)]
          · rw [List.drop_of_length_le h2]; rfl)
      go_wp2
      go_ret2
      have h1 : Pk.first l = (0, 0) := by rw [← hd.out.1]; exact HD.out
      exact ⟨by rw [h1]; rfl, rfl⟩
end Go.Proofs.YthfnnieklkaefaaGreat

namespace Go.Proofs.YthfnnieklkaefaaGreat
open Go.RowKit
set_option linter.unusedVariables false

/-- only block b has turned; what is new stands behind -/
abbrev Only (b : Nat) (w w' : World) : Prop := w.grownBy w' (some b)
theorem only_set {a w : World} {g : Nat} (h : Only g a w) (i : Nat) (u : Value) : Only g a (w.setCell ⟨g, i, none⟩ u) :=
  ⟨h.os, h.tape, h.output, by simpa [World.setCell] using h.size, fun k hk hne => (Below.heap_setCell w ⟨g, i, none⟩ u k (by rintro rfl; exact hne rfl)).trans (h.block k hk hne)⟩
theorem only_refl (g : Nat) (w : World) : Only g w w := World.grownBy.refl w _
theorem only_trans {a b c : World} {g : Nat} (h : Only g a b) (k : Only g b c) : Only g a c :=
  ⟨k.os.trans h.os, k.tape.trans h.tape, k.output.trans h.output, Nat.le_trans h.size k.size, fun i hi hn => (k.block i (Nat.lt_of_lt_of_le hi h.size) hn).trans (h.block i hi hn)⟩
theorem only_below {a w w' : World} {g B : Nat} (h : Only g a w) (hb : Below B w w') (hB : a.heap.size ≤ B) : Only g a w' :=
  ⟨hb.os.trans h.os, hb.tape.trans h.tape, hb.output.trans h.output, Nat.le_trans h.size hb.size, fun i hi hn => (hb.block i (by omega)).trans (h.block i hi hn)⟩
theorem below_only {W w w' : World} {g : Nat} (hB : Below W.heap.size W w) (h : Only g w w') (hg : W.heap.size ≤ g) : Below W.heap.size W w' :=
  hB.grown h hB.size (fun k hk => by injection hk with hk; omega)

theorem fail_any (w : World) (b : Nat) (s : Pk.St) (h : RdrAt w b s) :
    Calls Tryz.prog 136 #[.pointer (some ⟨b, 0, none⟩)] w fun e w' => e = .returned (.tuple #[]) ∧ RdrAt w' b none ∧ Only b w w' := by
  obtain ⟨A, n, c, hblk, h2, h3, h4, h5, h6⟩ := h
  have hc0 : w.cell? ⟨b, 0, none⟩ = some (.slice A n c) := hblk.cell 0
  have hc1 : w.cell? ⟨b, 1, none⟩ = some (.bool s.isNone) := hblk.cell 1
  have hf0 := hblk.frozen 0
  have hf1 := hblk.frozen 1
  have HB := Lib.hid hblk
  clear hblk h2 h3 h4 h5 h6
  go_enter Tryz.func136, Tryz.ntmps136
  go_wp2
  go_end0
  have hb := HB.out
  exact ⟨rfl, ⟨none, 0, 0, (hb.set_ 1 (.bool true)).set_ 0 (.slice none 0 0), by omega, by unfold maxLen; omega, by unfold Lim; omega, RdT.none_ _ _ _, by intro x hx; cases hx⟩, only_set (only_set (only_refl b w) 1 _) 0 _⟩
theorem first_is {l : List Nat} {v sz : Nat} (hf : Pk.first l = (v, sz)) (A : Option Addr) (n c B : Nat) (hl : ∀ x ∈ l, x < 256) (hc : n ≤ c) (hn : Lim 0 n) (w : World) (hr : Rd w B A n (bv l)) :
    Calls Tryz.prog 134 #[.slice A n c] w fun e w' => e = .returned (.tuple #[.int .i64 (v : Int), .int .i64 (sz : Int)]) ∧ w = w' := by
  have h := first_any l A n c B hl hc hn w hr
  rw [hf] at h
  exact h
/-- the reader's block turns to what is left -/
theorem rdr_cut {w : World} {b n c k : Nat} {A : Option Addr} {l : List Nat} (hb : Blk w b 105 #[.slice A n c, .bool false]) (hc : n ≤ c) (hm : c ≤ maxLen) (hn : Lim 40 n) (hr : RdT w 5 A n (bv l)) (hl : ∀ x ∈ l, x < 256) (hk : k ≤ n) :
    RdrAt (w.setCell ⟨b, 0, none⟩ (.slice (cutAt A c k) (n - k) (c - k))) b (some (l.drop k)) := by
  refine ⟨cutAt A c k, n - k, c - k, hb.set_ 0 _, by omega, by omega, by have := hn.out; unfold Lim; omega, ?_, fun x hx => hl x (List.mem_of_mem_drop hx)⟩
  have h1 := (hr.drop hk hc).grown (only_set (only_refl b w) 0 (.slice (cutAt A c k) (n - k) (c - k))) hb (by decide)
  rw [← bv_drop] at h1
  exact h1
theorem rdr_cuts {w : World} {b n c k : Nat} {A : Option Addr} {s : Pk.St} (hb : Blk w b 105 #[.slice A n c, .bool s.isNone]) (hc : n ≤ c) (hm : c ≤ maxLen) (hn : Lim 40 n) (hr : RdT w 5 A n (bv (s.getD []))) (hl : ∀ x ∈ s.getD [], x < 256) (hk : k ≤ n) :
    RdrAt (w.setCell ⟨b, 0, none⟩ (.slice (cutAt A c k) (n - k) (c - k))) b (s.map (List.drop k)) := by
  cases s with
  | some l => exact rdr_cut hb hc hm hn hr hl hk
  | none =>
    refine ⟨cutAt A c k, n - k, c - k, hb.set_ 0 _, by omega, by omega, by have := hn.out; unfold Lim; omega, ?_, fun x hx => by cases hx⟩
    have h0 : n = 0 := by have := hr.rd.length; simpa using this.symm
    subst h0
    rw [Nat.zero_sub]
    exact RdT.none_ _ _ _
/-- what Num answers, and leaves -/
def NumP (w : World) (b : Nat) (v : Nat) (s : Pk.St) (e : Ending) (w' : World) : Prop := e = .returned (.int .i64 (v : Int)) ∧ RdrAt w' b s ∧ Only b w w'
set_option maxRecDepth 100000 in
theorem rnum_any (w : World) (b : Nat) (s : Pk.St) (most : Int) (h : RdrAt w b s) :
    Calls Tryz.prog 70 #[.pointer (some ⟨b, 0, none⟩), .int .i64 most] w (NumP w b (Pk.numV s most) (Pk.numS s most)) := by
  have HR := Lib.hid h
  obtain ⟨A, n, c, hblk, h2, h3, h4, h5, h6⟩ := h
  have hc0 : w.cell? ⟨b, 0, none⟩ = some (.slice A n c) := hblk.cell 0
  have hf0 := hblk.frozen 0
  obtain ⟨v, sz, hf⟩ : ∃ v sz, Pk.first (s.getD []) = (v, sz) := ⟨_, _, rfl⟩
  have hsz := Pk.first_size (s.getD [])
  have hlen := h5.rd.length
  rw [hf] at hsz
  have hszn : sz ≤ n := by have := hsz.1; simp only at this; omega
  have HB := Lib.hid hblk
  have HT := Lib.hid h5
  have HL := Lib.hid h6
  have HF := Lib.hid hf
  have HM := Lib.hid h3
  clear hblk h5 h6 hlen hsz hf h3
  have hcall := Lib.hid (first_is HF.out A n c w.heap.size HL.out h2 (by have := h4.out; unfold Lim; omega) w HT.out.rd)
  by_cases hz : sz = 0
  · have HN := Lib.hid (show Pk.numN s most = none by
      cases s with
      | none => rfl
      | some l => have := HF.out; simp only [Option.getD_some] at this; simp [Pk.numN, Pk.rNum, this, hz])
    subst hz
    go_enter Tryz.func70, Tryz.ntmps70
    go_wp2_with fail
    refine hcall.out.mono ?_
    rintro e w' ⟨rfl, rfl⟩
    go_wp2_with fail
    refine (fail_any w b s HR.out).mono ?_
    rintro e w' ⟨rfl, hr1, ho1⟩
    go_wp2
    go_ret
    unfold NumP Pk.numV Pk.numS
    rw [HN.out]
    exact ⟨rfl, hr1, ho1⟩
  · obtain ⟨l, rfl⟩ : ∃ l, s = some l := by
      cases s with
      | none => exfalso; apply hz; have := HF.out; simp [Pk.first, Pk.dec] at this; omega
      | some l => exact ⟨l, rfl⟩
    have hzi : ((sz : Int) == 0) = false := by simp; omega
    by_cases hm : Pk.held most < v
    · have HN := Lib.hid (show Pk.numN (some l) most = none by
        have := HF.out; simp only [Option.getD_some] at this; simp [Pk.numN, Pk.rNum, this, hm])
      go_enter Tryz.func70, Tryz.ntmps70
      go_wp2_with fail
      refine hcall.out.mono ?_
      rintro e w' ⟨rfl, rfl⟩
      go_wp2_with (go_at_call 135; refine (held_any _ _).mono ?_; rintro e w' ⟨rfl, rfl⟩)
      refine (fail_any w b _ HR.out).mono ?_
      rintro e w' ⟨rfl, hr1, ho1⟩
      go_wp2
      go_ret
      unfold NumP Pk.numV Pk.numS
      rw [HN.out]
      exact ⟨rfl, hr1, ho1⟩
    · have HN := Lib.hid (show Pk.numN (some l) most = some (v, l.drop sz) by
        have := HF.out; simp only [Option.getD_some] at this; simp [Pk.numN, Pk.rNum, this, hm, hz])
      obtain ⟨i, hi1, hi2, hi3, hi4⟩ := info_parts byteT.info
      have hsl := run_slice_from (P := Tryz.prog) (t := 24) byteT.under hi1 hi3 A n c sz hszn
      clear hi1 hi2 hi3 hi4 hz
      go_enter Tryz.func70, Tryz.ntmps70
      go_wp2_with fail
      refine hcall.out.mono ?_
      rintro e w' ⟨rfl, rfl⟩
      go_wp2_with (go_at_call 135; refine (held_any _ _).mono ?_; rintro e w' ⟨rfl, rfl⟩)
      go_ret
      unfold NumP Pk.numV Pk.numS
      rw [HN.out]
      exact ⟨rfl, rdr_cut HB.out h2 HM.out h4 HT.out HL.out hszn, only_set (only_refl b w) 0 _⟩
/-- what Bytes answers, and leaves -/
def BytP (W : World) (b : Nat) (vs : List Nat) (s : Pk.St) (e : Ending) (w' : World) : Prop := ∃ A n c, e = .returned (.slice A n c) ∧ OwnB W w' A n c vs ∧ RdrAt w' b s ∧ Only b W w'
theorem own_only {W w w' : World} {A : Option Addr} {n c b : Nat} {l : List Nat} (h : OwnB W w A n c l) (ho : Only b w w') (hb : b < W.heap.size) : OwnB W w' A n c l :=
  h.kept ho (by
    rcases he : (Value.slice A n c).ownBlock with _ | k
    · exact .inl rfl
    · right
      intro h2
      injection h2 with h2
      have := (h.lt k he).1
      omega)
/-- what is a row of the call's own in a later world of it -/
theorem own_base {W W' w : World} {A : Option Addr} {n c : Nat} {l : List Nat} (h : OwnB W' w A n c l) (hs : W.heap.size ≤ W'.heap.size) : OwnB W w A n c l := by
  obtain ⟨h1, h2⟩ := h
  refine ⟨h1, ?_⟩
  rcases h2 with h2 | ⟨g, cap, cur, hv, hb, r⟩
  · exact .inl h2
  · exact .inr ⟨g, cap, cur, hv, by omega, r⟩
set_option maxRecDepth 100000 in
theorem rbytes_any (w : World) (b : Nat) (s : Pk.St) (most : Int) (h : RdrAt w b s) :
    Calls Tryz.prog 71 #[.pointer (some ⟨b, 0, none⟩), .int .i64 most] w (BytP w b (Pk.bytV s most) (Pk.bytS s most)) := by
  have hbl := h.lt
  have hcall := Lib.hid (rnum_any w b s most h)
  clear h
  by_cases hv : ((Pk.numS s most).getD []).length < Pk.numV s most
  · obtain ⟨hb1, hb2⟩ := Pk.byt_no hv
    rw [hb1, hb2]
    clear hb1 hb2
    go_enter Tryz.func71, Tryz.ntmps71
    go_wp2_with fail
    refine hcall.out.mono ?_
    rintro e w1 ⟨rfl, hr1, ho1⟩
    have HR := Lib.hid hr1
    obtain ⟨A, n, c, hblk, h2, h3, h4, h5, h6⟩ := hr1
    have hc0 : w1.cell? ⟨b, 0, none⟩ = some (.slice A n c) := hblk.cell 0
    have hlt : n < Pk.numV s most := by have := h5.rd.length; omega
    clear hblk h5 h6 hv h3
    go_wp2_with fail
    refine (fail_any w1 b _ HR.out).mono ?_
    rintro e w2 ⟨rfl, hr2, ho2⟩
    go_wp2
    go_ret
    exact ⟨none, 0, 0, rfl, World.ownsRow_nil _ _ _ _, hr2, only_trans ho1 ho2⟩
  · obtain ⟨hb1, hb2⟩ := Pk.byt_of hv
    have HB1 := Lib.hid hb1
    have HB2 := Lib.hid hb2
    clear hb1 hb2
    go_enter Tryz.func71, Tryz.ntmps71
    go_wp2_with fail
    refine hcall.out.mono ?_
    rintro e w1 ⟨rfl, hr1, ho1⟩
    obtain ⟨A, n, c, hblk, h2, h3, h4, h5, h6⟩ := hr1
    have hc0 : w1.cell? ⟨b, 0, none⟩ = some (.slice A n c) := hblk.cell 0
    have hlt : Pk.numV s most ≤ n := by have := h5.rd.length; omega
    have hltc : Pk.numV s most ≤ c := by omega
    have HT := Lib.hid h5
    have HB := Lib.hid hblk
    have HL := Lib.hid h6
    have HM := Lib.hid h3
    obtain ⟨i, hi1, hi2, hi3, hi4⟩ := info_parts byteT.info
    have hs1 := run_slice_from (P := Tryz.prog) (t := 24) byteT.under hi1 hi3 A n c (Pk.numV s most) hlt
    have hs2 := run_slice_to (P := Tryz.prog) (t := 24) byteT.under hi1 A n c (Pk.numV s most) hltc
    clear hblk h5 h6 hv h3 hi1 hi2 hi3 hi4
    go_wp2_with fail
    refine (withRoom_any (((Pk.numS s most).getD []).take (Pk.numV s most)) A (Pk.numV s most) c w1.heap.size 0 (by have := h4.out; unfold Lim; omega) (by omega) (by omega) _ (by rw [bv_take]; exact (HT.out.take hlt).rd)).mono ?_
    rintro e w2 ⟨A2, n2, c2, rfl, hown2, hB2⟩
    have hb2 := HB.out.below hB2
    have hc1 : w2.cell? ⟨b, 0, none⟩ = some (.slice A n c) := hb2.cell 0
    have hf1 := hb2.frozen 0
    have HB3 := Lib.hid hb2
    clear hc0 hb2
    go_wp2
    go_ret
    unfold BytP
    rw [HB1.out, HB2.out]
    have ho2 := only_set (only_below ho1 hB2 ho1.size) 0 (.slice (cutAt A c (Pk.numV s most)) (n - Pk.numV s most) (c - Pk.numV s most))
    exact ⟨A2, n2, c2, rfl, own_only (own_base hown2 ho1.size) (only_set (only_refl b w2) 0 _) hbl, rdr_cuts HB3.out h2 HM.out h4 (HT.out.below hB2) HL.out hlt, ho2⟩
theorem ok_any (w : World) (b : Nat) (s : Pk.St) (h : RdrAt w b s) :
    Calls Tryz.prog 26 #[.pointer (some ⟨b, 0, none⟩)] w fun e w' => e = .returned (.bool s.isSome) ∧ w = w' := by
  obtain ⟨A, n, c, hblk, h2, h3, h4, h5, h6⟩ := h
  have hc1 : w.cell? ⟨b, 1, none⟩ = some (.bool s.isNone) := hblk.cell 1
  clear hblk h2 h3 h4 h5 h6
  cases s with
  | none =>
    go_enter Tryz.func26, Tryz.ntmps26
    go_wp2
    go_ret
    exact ⟨rfl, rfl⟩
  | some l =>
    go_enter Tryz.func26, Tryz.ntmps26
    go_wp2
    go_ret
    exact ⟨rfl, rfl⟩
/-- is all read, and well? -/
def Pk.endOf (s : Pk.St) : Bool := decide (s = some [])
theorem end_any (w : World) (b : Nat) (s : Pk.St) (h : RdrAt w b s) :
    Calls Tryz.prog 48 #[.pointer (some ⟨b, 0, none⟩)] w fun e w' => e = .returned (.bool (Pk.endOf s)) ∧ w = w' := by
  have HK := Lib.hid (ok_any w b s h)
  obtain ⟨A, n, c, hblk, h2, h3, h4, h5, h6⟩ := h
  have hc0 : w.cell? ⟨b, 0, none⟩ = some (.slice A n c) := hblk.cell 0
  have hlen := h5.rd.length
  clear hblk h2 h3 h4 h5 h6
  rcases s with _ | l
  · clear hlen
    go_enter Tryz.func48, Tryz.ntmps48
    go_wp2_with fail
    refine HK.out.mono ?_
    rintro e w1 ⟨rfl, rfl⟩
    go_wp2
    go_ret
    exact ⟨rfl, rfl⟩
  · obtain ⟨d, hd1, hd2⟩ : ∃ d : Bool, ((n : Int) == 0) = d ∧ Pk.endOf (some l) = d := by
      refine ⟨_, rfl, ?_⟩
      have hl : l.length = n := hlen
      unfold Pk.endOf
      rw [Bool.eq_iff_iff]
      cases l with
      | nil => simp at hl; simp; omega
      | cons x l => simp at hl; simp; omega
    have HD := Lib.hid hd2
    clear hlen hd2
    cases d
    all_goals
      go_enter Tryz.func48, Tryz.ntmps48
      go_wp2_with fail
      refine HK.out.mono ?_
      rintro e w1 ⟨rfl, rfl⟩
      go_wp2
      go_ret
      exact ⟨by rw [HD.out]; rfl, rfl⟩
end Go.Proofs.YthfnnieklkaefaaGreat

namespace Go.Proofs.YthfnnieklkaefaaGreat
open Go.RowKit
set_option linter.unusedVariables false
theorem rnum_is (w : World) (b : Nat) (s : Pk.St) (most : Int) (h : RdrAt w b s) (v : Nat) (s' : Pk.St) (hv : Pk.numV s most = v) (hs : Pk.numS s most = s') :
    Calls Tryz.prog 70 #[.pointer (some ⟨b, 0, none⟩), .int .i64 most] w (NumP w b v s') := by
  subst hv hs; exact rnum_any w b s most h
theorem rbytes_is (w : World) (b : Nat) (s : Pk.St) (most : Int) (h : RdrAt w b s) (v : List Nat) (s' : Pk.St) (hv : Pk.bytV s most = v) (hs : Pk.bytS s most = s') :
    Calls Tryz.prog 71 #[.pointer (some ⟨b, 0, none⟩), .int .i64 most] w (BytP w b v s') := by
  subst hv hs; exact rbytes_any w b s most h
theorem read_in {W w : World} {l : List Nat} {A : Option Addr} {n c B : Nat} (hn : Lim 40 n) (hl : ∀ x ∈ l, x < 256) (hr : Rd w B A n (bv l)) (hB : Below W.heap.size W w) :
    Calls Tryz.prog 21 #[.slice A n c] w fun e w' => ∃ b, e = .returned (.pointer (some ⟨b, 0, none⟩)) ∧ RdrAt w' b (some l) ∧ W.heap.size ≤ b ∧ w.heap.size ≤ b ∧ Below W.heap.size W w' ∧ Below w.heap.size w w' :=
  (readP_any l A n c B hn hl w hr).mono fun e w' ⟨b, h1, h2, h3, h4⟩ => ⟨b, h1, h2, Nat.le_trans hB.size h3, h3, hB.trans (h4.mono hB.size), h4⟩
theorem put_in {W w : World} {l l' : List Nat} {A : Option Addr} {n c B : Nat} {N : Int} (hn : Lim 20 n) (hr : Rd w B A n (bv l)) (hB : Below W.heap.size W w) (he : l ++ Pk.enc (Pk.held N) = l') :
    Calls Tryz.prog 115 #[.slice A n c, .int .i64 N] w fun e w' => ∃ A n c, e = .returned (.slice A n c) ∧ OwnB W w' A n c l' ∧ Below W.heap.size W w' ∧ Below w.heap.size w w' := by
  subst he
  refine (num_any l A n c B N hn w hr).mono ?_
  rintro e w' ⟨A, n, c, h1, h2, h3⟩
  exact ⟨A, n, c, h1, own_base h2 hB.size, hB.trans (h3.mono hB.size), h3⟩
theorem putb_in {W w : World} {l x l' : List Nat} {A : Option Addr} {n c B : Nat} {A' : Option Addr} {n' c' B' : Nat} (hr : Rd w B A n (bv l)) (hr' : Rd w B' A' n' (bv x)) (hn : Lim 20 (l.length + x.length)) (hB : Below W.heap.size W w) (he : l ++ Pk.encB x = l') :
    Calls Tryz.prog 114 #[.slice A n c, .slice A' n' c'] w fun e w' => ∃ A n c, e = .returned (.slice A n c) ∧ OwnB W w' A n c l' ∧ Below W.heap.size W w' ∧ Below w.heap.size w w' := by
  subst he
  have h1 := hr.length
  have h2 := hr'.length
  have h3 := hn.out
  refine (bytes_any l x A n c B A' n' c' B' (by unfold Lim; omega) (by unfold Lim; omega) (by unfold Lim; omega) w hr hr').mono ?_
  rintro e w' ⟨A, n, c, h1, h2, h3⟩
  exact ⟨A, n, c, h1, own_base h2 hB.size, hB.trans (h3.mono hB.size), h3⟩
end Go.Proofs.YthfnnieklkaefaaGreat

namespace Go.Proofs.YthfnnieklkaefaaGreat
open Go.RowKit
set_option linter.unusedVariables false
/-- blocks of other types than bytes stay as they are -/
structure OnlyB (w w' : World) : Prop where
  size : w.heap.size ≤ w'.heap.size
  blk : ∀ {g : Nat} {t : TypeId} {cs : Array Value}, 5 ≠ t → Blk w g t cs → Blk w' g t cs
section
variable {W w w' w'' : World} {A : Option Addr} {n c : Nat} {l : List Nat}
theorem OnlyB.trans (h : OnlyB w w') (h' : OnlyB w' w'') : OnlyB w w'' := ⟨Nat.le_trans h.size h'.size, fun hn hb => h'.blk hn (h.blk hn hb)⟩
theorem OnlyB.of_below (h : Below w.heap.size w w') : OnlyB w w' := ⟨h.size, fun _ hb => hb.below h⟩
theorem OnlyB.grown {base : Nat} {xs : List Value} (h : w.ownsRow base 5 1 (.slice A n c) n xs) (hg : w.grownBy w' (Value.slice A n c).ownBlock) : OnlyB w w' :=
  ⟨hg.size, fun hn hb => hb.apart_own h (Ne.symm hn) hg⟩
end
/-- l, in a row of W's own that may have been there -/
def GotPut (W w : World) (l : List Nat) (e : Ending) (w' : World) : Prop := ∃ A c, e = .returned (.slice A l.length c) ∧ OwnB W w' A l.length c l ∧ Below W.heap.size W w' ∧ OnlyB w w'
theorem GotPut.is {W w w' : World} {l l' : List Nat} {e : Ending} (h : GotPut W w l e w') (he : l = l') : GotPut W w l' e w' := he ▸ h
set_option maxRecDepth 100000 in
theorem putNum_any {W w : World} {A : Option Addr} {n c : Nat} {l : List Nat} (z : Int) (hl : l.length ≤ 1000000) (ho : OwnB W w A n c l) (hB : Below W.heap.size W w) :
    Calls Tryz.prog 56 #[.slice A n c, .int .i64 z] w (GotPut W w (l ++ Pk.enc (Pk.held z))) := by
  obtain rfl := own_len ho
  have HO := Lib.hid ho
  have HB := Lib.hid hB
  have HX : Hid (∀ w, Below W.heap.size W w → Calls Tryz.prog 115 #[.slice none 0 0, .int .i64 z] w fun e w' => ∃ A n c, e = .returned (.slice A n c) ∧ OwnB W w' A n c (Pk.enc (Pk.held z)) ∧ Below W.heap.size W w' ∧ Below w.heap.size w w') :=
    Lib.hid (fun w hb => put_in (W := W) (l := []) (B := 0) (n := 0) (by unfold Lim; omega) (Rd.none_ _ _ _) hb rfl)
  obtain ⟨x, hx⟩ : ∃ x, Pk.enc (Pk.held z) = x := ⟨_, rfl⟩
  have hxl : x.length ≤ 9 := by rw [← hx]; exact (Pk.enc_length _).2
  rw [hx] at HX ⊢
  clear ho hB hx
  go_enter Tryz.func56, Tryz.ntmps56
  go_wp2_with (first
    | (go_at_call 115; refine (HX.out _ HB.out).mono ?_; rintro e w1 ⟨A1, n1, c1, rfl, ho1, hB1, hb1⟩; obtain rfl := own_len ho1)
    | (at_builtin
       refine wpList_append_cells (W := W) cellB (.tmp 5) (.tmp 7) rfl (by rfl) rfl (own_below HO.out hb1) rfl (Rd.own_ ho1) (bv_one _) (by omega) (by omega) hB1 ?_
       intro A3 c3 w3 hown3 hB3 hg3)
    | fail)
  go_ret
  rw [← bv_app] at hown3
  refine ⟨A3, c3, by rw [List.length_append]; rfl, by rw [List.length_append]; exact hown3, hB3, (OnlyB.of_below hb1).trans (OnlyB.grown (own_below HO.out hb1) hg3)⟩
set_option maxRecDepth 100000 in
theorem putBytes_any {W w : World} {A A' : Option Addr} {n c n' c' : Nat} {l x : List Nat} (hl : l.length ≤ 1000000) (hx : x.length ≤ 100000) (ho : OwnB W w A n c l) (hr : Rd W W.heap.size A' n' (bv x)) (hB : Below W.heap.size W w) :
    Calls Tryz.prog 53 #[.slice A n c, .slice A' n' c'] w (GotPut W w (l ++ Pk.encB x)) := by
  obtain rfl := own_len ho
  obtain rfl := hr.length
  have HO := Lib.hid ho
  have HB := Lib.hid hB
  have HX : Hid (∀ w, Below W.heap.size W w → Calls Tryz.prog 114 #[.slice none 0 0, .slice A' x.length c'] w fun e w' => ∃ A n c, e = .returned (.slice A n c) ∧ OwnB W w' A n c (Pk.encB x) ∧ Below W.heap.size W w' ∧ Below w.heap.size w w') :=
    Lib.hid (fun w hb => putb_in (W := W) (l := []) (B := 0) (n := 0) (B' := W.heap.size) (Rd.none_ _ _ _) (hr.below hb) (by unfold Lim; simp; omega) hb rfl)
  have hxl := encB_length x
  obtain ⟨y, hy⟩ : ∃ y, Pk.encB x = y := ⟨_, rfl⟩
  rw [hy] at HX hxl ⊢
  clear ho hB hy hr
  go_enter Tryz.func53, Tryz.ntmps53
  go_wp2_with (first
    | (go_at_call 114; refine (HX.out _ HB.out).mono ?_; rintro e w1 ⟨A1, n1, c1, rfl, ho1, hB1, hb1⟩; obtain rfl := own_len ho1)
    | (at_builtin
       refine wpList_append_cells (W := W) cellB (.tmp 5) (.tmp 7) rfl (by rfl) rfl (own_below HO.out hb1) rfl (Rd.own_ ho1) (bv_one _) (by omega) (by omega) hB1 ?_
       intro A3 c3 w3 hown3 hB3 hg3)
    | fail)
  go_ret
  rw [← bv_app] at hown3
  refine ⟨A3, c3, by rw [List.length_append]; rfl, by rw [List.length_append]; exact hown3, hB3, (OnlyB.of_below hb1).trans (OnlyB.grown (own_below HO.out hb1) hg3)⟩
set_option maxHeartbeats 2000000 in
set_option maxRecDepth 100000 in
theorem putPair_any {W w : World} {A A1 A2 : Option Addr} {n c c1 c2 : Nat} {l : List Nat} {p : Pr} (hl : l.length ≤ 100000) (hp1 : p.1.length ≤ 100000) (hp2 : p.2.length ≤ 100000) (ho : OwnB W w A n c l) (h1 : Rd W W.heap.size A1 p.1.length (bv p.1)) (h2 : Rd W W.heap.size A2 p.2.length (bv p.2)) (hB : Below W.heap.size W w) :
    Calls Tryz.prog 58 #[.slice A n c, .agg #[.slice A1 p.1.length c1, .slice A2 p.2.length c2]] w (GotPut W w (l ++ Pk.encB p.1 ++ Pk.encB p.2)) := by
  obtain rfl := own_len ho
  obtain ⟨wz, hwz⟩ : ∃ wz, w.alloc (.cells #[.slice A1 p.1.length c1, .slice A2 p.2.length c2] 86) = wz := ⟨_, rfl⟩
  have hbz : Below w.heap.size w wz := by rw [← hwz]; exact (Below.refl _ _).alloc (Nat.le_refl _) _
  have hkz : Blk wz w.heap.size 86 #[.slice A1 p.1.length c1, .slice A2 p.2.length c2] := by rw [← hwz]; exact Blk.new _ _ _
  obtain ⟨g, hg⟩ : ∃ g, w.heap.size = g := ⟨_, rfl⟩
  rw [hg] at hkz
  have HZ := Lib.hid hbz
  have HO := Lib.hid (own_below ho hbz)
  have HB := Lib.hid (hB.trans (hbz.mono hB.size))
  have HR1 := Lib.hid h1
  have HR2 := Lib.hid h2
  have HP1 := Lib.hid hp1
  have HP2 := Lib.hid hp2
  have HW := Lib.hid hwz
  have HG := Lib.hid hg
  have HK := Lib.hid hkz
  obtain ⟨l1, e1⟩ : ∃ x, l ++ Pk.encB p.1 = x := ⟨_, rfl⟩
  have hl1 : l1.length ≤ 1000000 := by rw [← e1, List.length_append]; have := encB_length p.1; omega
  obtain ⟨l2, e2⟩ : ∃ x, l1 ++ Pk.encB p.2 = x := ⟨_, rfl⟩
  rw [e1, e2]
  have HE1 := Lib.hid e1
  have HE2 := Lib.hid e2
  have HL := Lib.hid (And.intro hl hl1)
  clear ho hbz hB h1 h2 hp1 hp2 hwz hg hkz e1 e2 hl hl1
  go_enter Tryz.func58, Tryz.ntmps58
  go_upto_region 1 with fail
  rw [HG.out, HW.out]
  refine wp_region_held_drew (S := fun w' => Blk w' g 86 #[.slice A1 p.1.length c1, .slice A2 p.2.length c2]) (by kernel_rfl) HK.out (fun _ => ?_)
  have HD : Hid (Below wz.heap.size wz wz.drew) := Lib.hid (Below.refl _ _).drew
  generalize wz.drew = wd at HD ⊢
  have HK := Lib.hid (HK.out.below HD.out)
  refine wpAnyH_take (i := 0) (v := .slice A l.length c) rfl (by kernel_rfl) (by kernel_rfl) (by kernel_rfl) (fun _ _ _ h => h) (Or.inl ⟨by kernel_rfl, fun w _ => by go_simp⟩) HK.out ?_
  refine wpAnyH_take (i := 1) (v := .pointer (some ⟨g, 0, none⟩)) rfl (by kernel_rfl) (by kernel_rfl) (by kernel_rfl) (fun _ _ _ h => h) (Or.inl ⟨by kernel_rfl, fun w _ => by go_simp⟩) HK.out ?_
  refine wpAnyH_take (i := 4) (v := .pointer (some ⟨g, 1, none⟩)) rfl (by kernel_rfl) (by kernel_rfl) (by kernel_rfl) (fun _ _ _ h => h) (Or.inl ⟨by kernel_rfl, fun w _ => by go_simp⟩) HK.out ?_
  refine wpAnyH_take (i := 2) (v := .slice A1 p.1.length c1) rfl (by kernel_rfl) (by kernel_rfl) (by kernel_rfl) (fun _ _ _ h => h) (Or.inl ⟨by kernel_rfl, fun w h => by have q := h.cell 0; go_simp⟩) HK.out ?_
  refine wpAnyH_take (i := 5) (v := .slice A2 p.2.length c2) rfl (by kernel_rfl) (by kernel_rfl) (by kernel_rfl) (fun _ _ _ h => h) (Or.inl ⟨by kernel_rfl, fun w h => by have q := h.cell 1; go_simp⟩) HK.out ?_
  refine wpAnyH_ready (rs := [3]) (by kernel_rfl) (by simp) ?_
  refine AllReadyH.cons rfl (fun K hK => ?_) AllReadyH.nil
  go_simp
  refine (putBytes_any (W := W) (c' := c1) (Nat.le_trans HL.out.1 (by omega)) HP1.out (own_below HO.out HD.out) HR1.out (HB.out.trans (HD.out.mono HB.out.size))).mono ?_
  rintro en w1 ⟨A3, c3, rfl, ho3, hB3, hb3⟩
  rw [HE1.out] at ho3 ⊢
  have HK3 := Lib.hid (hb3.blk (by decide) HK.out)
  go_simp
  refine hK.out _ _ HK3.out (fun _ => ?_)
  clear hK K
  refine wpAnyH_ready (rs := [6]) (by kernel_rfl) (by simp) ?_
  refine AllReadyH.cons rfl (fun K hK => ?_) AllReadyH.nil
  go_simp
  refine (putBytes_any (W := W) (c' := c2) HL.out.2 HP2.out ho3 HR2.out hB3).mono ?_
  rintro en w2 ⟨A4, c4, rfl, ho4, hB4, hb4⟩
  rw [HE2.out] at ho4 ⊢
  have HK4 := Lib.hid (hb4.blk (by decide) HK3.out)
  go_simp
  refine hK.out _ _ HK4.out (fun _ => ?_)
  clear hK K
  refine wpAnyH_take (i := 7) (v := .slice A4 l2.length c4) rfl (by kernel_rfl) (by kernel_rfl) (by kernel_rfl) (fun _ _ _ h => h) (Or.inl ⟨by kernel_rfl, fun w _ => by go_simp⟩) HK4.out ?_
  refine wpAnyH_done (by kernel_rfl) ?_ _
  go_wp2_with fail
  go_ret
  exact ⟨A4, c4, rfl, ho4, hB4, (((OnlyB.of_below HZ.out).trans (OnlyB.of_below HD.out)).trans hb3).trans hb4⟩
set_option maxHeartbeats 2000000 in
set_option maxRecDepth 100000 in
theorem putLast_any {W w : World} {A A1 : Option Addr} {n c c1 : Nat} {l : List Nat} {m : Ls} (hl : l.length ≤ 100000) (hv : m.v.length ≤ 100000) (hm : -1 ≤ m.n ∧ m.n ≤ 1073741824) (ho : OwnB W w A n c l) (h1 : Rd W W.heap.size A1 m.v.length (bv m.v)) (hB : Below W.heap.size W w) :
    Calls Tryz.prog 60 #[.slice A n c, .agg #[.int .i64 m.s, .int .i64 m.q, .int .i64 m.e, .slice A1 m.v.length c1, .int .i64 m.n]] w (GotPut W w (l ++ encL1 m)) := by
  obtain rfl := own_len ho
  obtain ⟨wz, hwz⟩ : ∃ wz, w.alloc (.cells #[.int .i64 m.s, .int .i64 m.q, .int .i64 m.e, .slice A1 m.v.length c1, .int .i64 m.n] 54) = wz := ⟨_, rfl⟩
  have hbz : Below w.heap.size w wz := by rw [← hwz]; exact (Below.refl _ _).alloc (Nat.le_refl _) _
  have hkz : Blk wz w.heap.size 54 #[.int .i64 m.s, .int .i64 m.q, .int .i64 m.e, .slice A1 m.v.length c1, .int .i64 m.n] := by rw [← hwz]; exact Blk.new _ _ _
  obtain ⟨g, hg⟩ : ∃ g, w.heap.size = g := ⟨_, rfl⟩
  rw [hg] at hkz
  have HZ := Lib.hid hbz
  have HO := Lib.hid (own_below ho hbz)
  have HB := Lib.hid (hB.trans (hbz.mono hB.size))
  have HR1 := Lib.hid h1
  have HV := Lib.hid hv
  have HW := Lib.hid hwz
  have HG := Lib.hid hg
  have HK := Lib.hid hkz
  obtain ⟨s, es⟩ : ∃ x, m.s = x := ⟨_, rfl⟩
  obtain ⟨q, eq⟩ : ∃ x, m.q = x := ⟨_, rfl⟩
  obtain ⟨e, ee⟩ : ∃ x, m.e = x := ⟨_, rfl⟩
  obtain ⟨v, ev⟩ : ∃ x, m.v = x := ⟨_, rfl⟩
  obtain ⟨N, eN⟩ : ∃ x, m.n = x := ⟨_, rfl⟩
  have hEL : encL1 m = Pk.enc (Pk.held s) ++ (Pk.enc (Pk.held q) ++ (Pk.enc (Pk.held e) ++ (Pk.enc (Pk.held (N + 1)) ++ Pk.encB v))) := by unfold encL1; rw [es, eq, ee, ev, eN]
  rw [hEL]
  rw [es, eq, ee, ev, eN] at HK HW
  rw [ev] at HR1 HV
  rw [eN] at hm
  rw [es, eq, ee, ev, eN]
  clear es eq ee ev eN hEL
  have k1 := (Pk.enc_length (Pk.held s)).2
  have k2 := (Pk.enc_length (Pk.held q)).2
  have k3 := (Pk.enc_length (Pk.held e)).2
  have k4 := (Pk.enc_length (Pk.held (N + 1))).2
  obtain ⟨l1, e1⟩ : ∃ x, l ++ Pk.enc (Pk.held s) = x := ⟨_, rfl⟩
  obtain ⟨l2, e2⟩ : ∃ x, l1 ++ Pk.enc (Pk.held q) = x := ⟨_, rfl⟩
  obtain ⟨l3, e3⟩ : ∃ x, l2 ++ Pk.enc (Pk.held e) = x := ⟨_, rfl⟩
  obtain ⟨l4, e4⟩ : ∃ x, l3 ++ Pk.enc (Pk.held (N + 1)) = x := ⟨_, rfl⟩
  obtain ⟨l5, e5⟩ : ∃ x, l4 ++ Pk.encB v = x := ⟨_, rfl⟩
  have hL : l.length ≤ 1000000 ∧ l1.length ≤ 1000000 ∧ l2.length ≤ 1000000 ∧ l3.length ≤ 1000000 ∧ l4.length ≤ 1000000 := by
    rw [← e4, ← e3, ← e2, ← e1]; simp only [List.length_append]; omega
  have hEND : l ++ (Pk.enc (Pk.held s) ++ (Pk.enc (Pk.held q) ++ (Pk.enc (Pk.held e) ++ (Pk.enc (Pk.held (N + 1)) ++ Pk.encB v)))) = l5 := by
    rw [← e5, ← e4, ← e3, ← e2, ← e1]; simp only [List.append_assoc]
  rw [hEND]
  have HL := Lib.hid hL
  have HE1 := Lib.hid e1
  have HE2 := Lib.hid e2
  have HE3 := Lib.hid e3
  have HE4 := Lib.hid e4
  have HE5 := Lib.hid e5
  have HMIN : Hid (N ≤ 1073741824) := Lib.hid hm.2
  have HWR : Hid (IntKind.i64.wrap (N + 1) = N + 1) := Lib.hid (IntWalk.i64_in _ (by omega))
  clear hm
  clear ho hbz hB h1 hv hwz hg hkz e1 e2 e3 e4 e5 hl hL hEND k1 k2 k3 k4
  go_enter Tryz.func60, Tryz.ntmps60
  go_upto_region 1 with fail
  rw [HG.out, HW.out]
  refine wp_region_held_drew (S := fun w' => Blk w' g 54 #[.int .i64 s, .int .i64 q, .int .i64 e, .slice A1 v.length c1, .int .i64 N]) (by kernel_rfl) HK.out (fun _ => ?_)
  have HD : Hid (Below wz.heap.size wz wz.drew) := Lib.hid (Below.refl _ _).drew
  generalize wz.drew = wd at HD ⊢
  have HK := Lib.hid (HK.out.below HD.out)
  refine wpAnyH_take (i := 0) (v := .slice A l.length c) rfl (by kernel_rfl) (by kernel_rfl) (by kernel_rfl) (fun _ _ _ h => h) (Or.inl ⟨by kernel_rfl, fun w _ => by go_simp⟩) HK.out ?_
  refine wpAnyH_take (i := 1) (v := .pointer (some ⟨g, 0, none⟩)) rfl (by kernel_rfl) (by kernel_rfl) (by kernel_rfl) (fun _ _ _ h => h) (Or.inl ⟨by kernel_rfl, fun w _ => by go_simp⟩) HK.out ?_
  refine wpAnyH_take (i := 4) (v := .pointer (some ⟨g, 1, none⟩)) rfl (by kernel_rfl) (by kernel_rfl) (by kernel_rfl) (fun _ _ _ h => h) (Or.inl ⟨by kernel_rfl, fun w _ => by go_simp⟩) HK.out ?_
  refine wpAnyH_take (i := 2) (v := .int .i64 s) rfl (by kernel_rfl) (by kernel_rfl) (by kernel_rfl) (fun _ _ _ h => h) (Or.inl ⟨by kernel_rfl, fun w h => by have q := h.cell 0; go_simp⟩) HK.out ?_
  refine wpAnyH_take (i := 5) (v := .int .i64 q) rfl (by kernel_rfl) (by kernel_rfl) (by kernel_rfl) (fun _ _ _ h => h) (Or.inl ⟨by kernel_rfl, fun w h => by have q := h.cell 1; go_simp⟩) HK.out ?_
  refine wpAnyH_ready (rs := [3]) (by kernel_rfl) (by simp) ?_
  refine AllReadyH.cons rfl (fun K hK => ?_) AllReadyH.nil
  go_simp
  refine (putNum_any (W := W) s HL.out.1 (own_below HO.out HD.out) (HB.out.trans (HD.out.mono HB.out.size))).mono ?_
  rintro en w1 ⟨A3, c3, rfl, ho3, hB3, hb3⟩
  rw [HE1.out] at ho3 ⊢
  have HK3 := Lib.hid (hb3.blk (by decide) HK.out)
  go_simp
  refine hK.out _ _ HK3.out (fun _ => ?_)
  clear hK K
  refine wpAnyH_ready (rs := [6]) (by kernel_rfl) (by simp) ?_
  refine AllReadyH.cons rfl (fun K hK => ?_) AllReadyH.nil
  go_simp
  refine (putNum_any (W := W) q HL.out.2.1 ho3 hB3).mono ?_
  rintro en w2 ⟨A4, c4, rfl, ho4, hB4, hb4⟩
  rw [HE2.out] at ho4 ⊢
  have HK4 := Lib.hid (hb4.blk (by decide) HK3.out)
  go_simp
  refine hK.out _ _ HK4.out (fun _ => ?_)
  clear hK K
  refine wpAnyH_take (i := 7) (v := .slice A4 l2.length c4) rfl (by kernel_rfl) (by kernel_rfl) (by kernel_rfl) (fun _ _ _ h => h) (Or.inl ⟨by kernel_rfl, fun w _ => by go_simp⟩) HK4.out ?_
  refine wpAnyH_done (by kernel_rfl) ?_ _
  obtain ⟨x0, x1, x2, x3, x4⟩ := five HK4.out
  go_upto_region 3 with (first
    | (go_at_call 56; refine (putNum_any (W := W) e HL.out.2.2.1 ho4 hB4).mono ?_; rintro en w5 ⟨A5, c5, rfl, ho5, hB5, hb5⟩; rw [HE3.out] at ho5 ⊢; have HK5 := Lib.hid (hb5.blk (by decide) HK4.out); obtain ⟨y0, y1, y2, y3, y4⟩ := five HK5.out)
    | fail)
  have hmin : ∀ (ts : Array TypeId) (t : TypeId) (w : World), (Builtin.min_ ts t #[.int .i64 N, .int .i64 9223372036854775806]).run Tryz.prog w = .ok (.int .i64 N) w := fun ts t w => by
    rw [run_min_int2, if_neg (by have := HMIN.out; omega)]
  have hwr := HWR.out
  clear HMIN HWR x0 x1 x2 x3 x4
  go_wp2_with (first
    | (go_at_call 56; refine (putNum_any (W := W) (N + 1) HL.out.2.2.2.1 ho5 hB5).mono ?_; rintro en w6 ⟨A6, c6, rfl, ho6, hB6, hb6⟩; rw [HE4.out] at ho6 ⊢; have HK6 := Lib.hid (hb6.blk (by decide) HK5.out); obtain ⟨z0, z1, z2, z3, z4⟩ := five HK6.out)
    | (go_at_call 53; refine (putBytes_any (W := W) (c' := c1) HL.out.2.2.2.2 HV.out ho6 HR1.out hB6).mono ?_; rintro en w7 ⟨A7, c7, rfl, ho7, hB7, hb7⟩; rw [HE5.out] at ho7 ⊢)
    | fail)
  go_ret
  exact ⟨A7, c7, rfl, ho7, hB7, ((((((OnlyB.of_below HZ.out).trans (OnlyB.of_below HD.out)).trans hb3).trans hb4).trans hb5).trans hb6).trans hb7⟩
end Go.Proofs.YthfnnieklkaefaaGreat

namespace Go.Proofs.YthfnnieklkaefaaGreat
open Go.RowKit
set_option linter.unusedVariables false

set_option maxRecDepth 100000 in
theorem clone_raw (l : List Nat) (A : Option Addr) (n c B : Nat) (hn : Lim 0 n) (w : World) (hr : Rd w B A n (bv l)) :
    Calls Tryz.prog 69 #[.slice A n c] w (GotB w l) := by
  have hn := hn.out
  have H := Lib.hid hr.fit
  have hB0 : Below w.heap.size w w := Below.refl _ _
  cases A with
  | none =>
    have h0 : n = 0 := by
      rcases Nat.eq_zero_or_pos n with h | h
      · exact h
      · obtain ⟨b, o, h1, _⟩ := hr.2 h
        cases h1
    subst h0
    have hl : l = [] := List.eq_nil_of_length_eq_zero hr.length
    subst hl
    clear hr H
    have he : ∀ w : World, (binOp .eql 24 (.slice none 0 c) (.slice none 0 0)).run Tryz.prog w = .ok (.bool true) w := fun _ => rfl
    go_enter Tryz.func69, Tryz.ntmps69
    go_wp2
    go_ret
    exact ⟨none, 0, 0, rfl, ⟨rfl, .inl ⟨rfl, rfl⟩⟩, hB0⟩
  | some a =>
    clear hr
    have he : ∀ w : World, (binOp .eql 24 (.slice (some a) n c) (.slice none 0 0)).run Tryz.prog w = .ok (.bool false) w := fun _ => rfl
    go_enter Tryz.func69, Tryz.ntmps69
    go_wp2_with (first
      | (at_builtin
         refine wpList_append_bytes (W := w) byteT (.tmp 5) (.tmp 6) rfl (by rfl) rfl (own_empty hB0 5) rfl ((H.out).alloc (Nat.le_refl _) _) (by omega) (hB0.alloc (Nat.le_refl _) _) ?_
         intro A1 c1 w1 hown1 hr1 hB1
         simp only [Nat.zero_add, List.nil_append] at hown1 hr1)
      | fail)
    go_ret
    exact ⟨_, _, _, rfl, hown1, hB1⟩
theorem clone_any {W w : World} {l : List Nat} {A : Option Addr} {n c B : Nat} (hn : Lim 0 n) (hr : Rd w B A n (bv l)) (hB : Below W.heap.size W w) :
    Calls Tryz.prog 69 #[.slice A n c] w (GotIn W w l) :=
  (clone_raw l A n c B hn w hr).mono fun e w' h => GotIn.of hB h
end Go.Proofs.YthfnnieklkaefaaGreat

namespace Go.Proofs.YthfnnieklkaefaaGreat
open Go.RowKit
set_option linter.unusedVariables false
theorem take_snoc {α : Type} {l : List α} {k : Nat} {x : α} (h : l[k]? = some x) : l.take (k + 1) = l.take k ++ [x] := by rw [List.take_add_one, h]; rfl
theorem cell_of {W w : World} (hB : Below W.heap.size W w) {p : Addr} {v : Value} (h : W.cell? p = some v) : w.cell? p = some v := (hB.cell (World.block_lt_of_cell? _ _ h)).trans h
set_option maxHeartbeats 2000000 in
set_option maxRecDepth 100000 in
theorem putEachQ_any {W w : World} {A A' : Option Addr} {n c n' c' : Nat} {l : List Nat} {xs : List (List Nat)} (hl : l.length ≤ 10000) (hn : xs.length ≤ 100) (hx : ∀ x ∈ xs, x.length ≤ 16) (ho : OwnB W w A n c l) (hr : RdQ W W.heap.size A' n' xs) (hB : Below W.heap.size W w) :
    Calls Tryz.prog 54 #[.slice A n c, .slice A' n' c', .func (.func 53) #[] #[]] w (GotPut W w (l ++ (encN xs.length ++ encQ xs))) := by
  obtain rfl := own_len ho
  have hlen : xs.length = n' := hr.length
  subst hlen
  have HR := Lib.hid hr
  have HX := Lib.hid hx
  have HLEN : Hid (∀ k, k ≤ xs.length → (l ++ (encN xs.length ++ encQ (xs.take k))).length ≤ 20000) := Lib.hid (fun k hk => by
    have h1 := encN_length xs.length
    have h2 := encQ_length (qs := xs.take k) (fun y hy => hx y (List.mem_of_mem_take hy))
    have h3 : (xs.take k).length ≤ k := List.length_take_le _ _
    simp only [List.length_append]; omega)
  have HC := Lib.hid (putNum_any (W := W) (xs.length : Int) (by omega) ho hB)
  obtain ⟨l0, e0⟩ : ∃ x, l ++ Pk.enc (Pk.held (xs.length : Int)) = x := ⟨_, rfl⟩
  rw [e0] at HC
  have HE0 : Hid (∀ y, l ++ (encN xs.length ++ y) = l0 ++ y) := Lib.hid (fun y => by rw [← e0, ← List.append_assoc]; rfl)
  rw [HE0.out] 
  clear ho hB hr e0 hx 
  go_enter Tryz.func54, Tryz.ntmps54
  go_wp2_with (first
    | (go_at_call 56; refine HC.out.mono ?_; rintro e w1 ⟨A1, c1, rfl, ho1, hB1, hb1⟩)
    | fail)
  have HO1 := Lib.hid ho1
  have HB1 := Lib.hid hB1
  have HU1 := Lib.hid hb1
  clear ho1 hB1 hb1 HC
  go_loopw [0, 8, 15] (fun s0 s8 s15 wr => ∃ (k : Nat) (A2 : Option Addr) (c2 : Nat) (L : List Nat), k ≤ xs.length ∧ s15 = .int .i64 (k : Int) ∧ s0 = .slice A2 L.length c2 ∧ Hid (L = l0 ++ encQ (xs.take k)) ∧ Hid (OwnB W wr A2 L.length c2 L) ∧ Hid (Below W.heap.size W wr) ∧ Hid (OnlyB w wr)) (fun _ _ s15 _ => xs.length - (intOf s15).toNat)
  case atStart => exact ⟨0, A1, c1, l0, Nat.zero_le _, rfl, rfl, Lib.hid (by simp [encQ]), HO1, HB1, HU1⟩
  case round =>
    obtain ⟨k, A2, c2, L, hk, rfl, rfl, HL, HO, HB, HU⟩ := hrel
    by_cases hlt : k < xs.length
    · obtain ⟨b, o, x, A3, c3, rfl, hxk, hc0, hrd⟩ := HR.out.at hlt
      have y0 := cell_of HB.out hc0
      have hLL : L.length ≤ 1000000 := by have := HLEN.out k hk; rw [HE0.out, ← HL.out] at this; omega
      have hLS : L.length ≤ 20000 := by have := HLEN.out k hk; rwa [HE0.out, ← HL.out] at this
      have HP := Lib.hid hxk
      have HC := Lib.hid (putBytes_any (W := W) (c' := c3) hLL (Nat.le_trans (HX.out x (List.mem_of_getElem? hxk)) (by omega)) HO.out hrd HB.out)
      obtain ⟨L', eL⟩ : ∃ y, L ++ Pk.encB x = y := ⟨_, rfl⟩
      rw [eL] at HC
      have HEL := Lib.hid eL
      clear eL hxk 
      go_wp2_with (first
        | (go_at_call 53; refine HC.out.mono ?_; rintro e w4 ⟨A5, c5, rfl, ho5, hB5, hb5⟩)
        | fail)
      go_roundw
      case rel =>
        refine ⟨k + 1, A5, c5, L', by omega, by go_num, rfl, Lib.hid ?_, Lib.hid ho5, Lib.hid hB5, Lib.hid (HU.out.trans hb5)⟩
        rw [← HEL.out, HL.out, take_snoc HP.out, encQ_snoc]
        simp only [List.append_assoc]
      case measure => simp only [intOf]; omega
    · obtain rfl : k = xs.length := by omega
      go_wp2_with fail
      go_ret
      exact GotPut.is (l := L) ⟨A2, c2, rfl, HO.out, HB.out, HU.out⟩ (by rw [HL.out, List.take_of_length_le (Nat.le_refl _)])
set_option maxHeartbeats 2000000 in
set_option maxRecDepth 100000 in
theorem putEachI_any {W w : World} {A A' : Option Addr} {n c n' c' : Nat} {l : List Nat} {xs : List Int} (hl : l.length ≤ 10000) (hn : xs.length ≤ 100)  (ho : OwnB W w A n c l) (hr : Rd W W.heap.size A' n' (iv xs)) (hB : Below W.heap.size W w) :
    Calls Tryz.prog 55 #[.slice A n c, .slice A' n' c', .func (.func 56) #[] #[]] w (GotPut W w (l ++ (encN xs.length ++ Pk.encs xs))) := by
  obtain rfl := own_len ho
  have hlen : xs.length = n' := by have := hr.1; rwa [iv_length] at this
  subst hlen
  have HR := Lib.hid hr
  have HLEN : Hid (∀ k, k ≤ xs.length → (l ++ (encN xs.length ++ Pk.encs (xs.take k))).length ≤ 20000) := Lib.hid (fun k hk => by
    have h1 := encN_length xs.length
    have h2 := Pk.encs_length (xs.take k)
    have h3 : (xs.take k).length ≤ k := List.length_take_le _ _
    simp only [List.length_append]; omega)
  have HC := Lib.hid (putNum_any (W := W) (xs.length : Int) (by omega) ho hB)
  obtain ⟨l0, e0⟩ : ∃ x, l ++ Pk.enc (Pk.held (xs.length : Int)) = x := ⟨_, rfl⟩
  rw [e0] at HC
  have HE0 : Hid (∀ y, l ++ (encN xs.length ++ y) = l0 ++ y) := Lib.hid (fun y => by rw [← e0, ← List.append_assoc]; rfl)
  rw [HE0.out] 
  clear ho hB hr e0 
  go_enter Tryz.func55, Tryz.ntmps55
  go_wp2_with (first
    | (go_at_call 56; refine HC.out.mono ?_; rintro e w1 ⟨A1, c1, rfl, ho1, hB1, hb1⟩)
    | fail)
  have HO1 := Lib.hid ho1
  have HB1 := Lib.hid hB1
  have HU1 := Lib.hid hb1
  clear ho1 hB1 hb1 HC
  go_loopw [0, 8, 15] (fun s0 s8 s15 wr => ∃ (k : Nat) (A2 : Option Addr) (c2 : Nat) (L : List Nat), k ≤ xs.length ∧ s15 = .int .i64 (k : Int) ∧ s0 = .slice A2 L.length c2 ∧ Hid (L = l0 ++ Pk.encs (xs.take k)) ∧ Hid (OwnB W wr A2 L.length c2 L) ∧ Hid (Below W.heap.size W wr) ∧ Hid (OnlyB w wr)) (fun _ _ s15 _ => xs.length - (intOf s15).toNat)
  case atStart => exact ⟨0, A1, c1, l0, Nat.zero_le _, rfl, rfl, Lib.hid (by simp [Pk.encs]), HO1, HB1, HU1⟩
  case round =>
    obtain ⟨k, A2, c2, L, hk, rfl, rfl, HL, HO, HB, HU⟩ := hrel
    by_cases hlt : k < xs.length
    · obtain ⟨x, hxk⟩ : ∃ x, xs[k]? = some x := ⟨_, List.getElem?_eq_getElem hlt⟩
      obtain ⟨b, o, rfl, _⟩ := HR.out.int_at hlt
      have hc0 := HR.out.int_cell hlt hxk
      have y0 := cell_of HB.out hc0
      have hLL : L.length ≤ 1000000 := by have := HLEN.out k hk; rw [HE0.out, ← HL.out] at this; omega
      have hLS : L.length ≤ 20000 := by have := HLEN.out k hk; rwa [HE0.out, ← HL.out] at this
      have HP := Lib.hid hxk
      have HC := Lib.hid (putNum_any (W := W) x hLL HO.out HB.out)
      obtain ⟨L', eL⟩ : ∃ y, L ++ Pk.enc (Pk.held x) = y := ⟨_, rfl⟩
      rw [eL] at HC
      have HEL := Lib.hid eL
      clear eL hxk 
      go_wp2_with (first
        | (go_at_call 56; refine HC.out.mono ?_; rintro e w4 ⟨A5, c5, rfl, ho5, hB5, hb5⟩)
        | fail)
      go_roundw
      case rel =>
        refine ⟨k + 1, A5, c5, L', by omega, by go_num, rfl, Lib.hid ?_, Lib.hid ho5, Lib.hid hB5, Lib.hid (HU.out.trans hb5)⟩
        rw [← HEL.out, HL.out, take_snoc HP.out, Pk.encs_snoc]
        simp only [List.append_assoc]
      case measure => simp only [intOf]; omega
    · obtain rfl : k = xs.length := by omega
      go_wp2_with fail
      go_ret
      exact GotPut.is (l := L) ⟨A2, c2, rfl, HO.out, HB.out, HU.out⟩ (by rw [HL.out, List.take_of_length_le (Nat.le_refl _)])
set_option maxHeartbeats 2000000 in
set_option maxRecDepth 100000 in
theorem putEachP_any {W w : World} {A A' : Option Addr} {n c n' c' : Nat} {l : List Nat} {xs : List Pr} (hl : l.length ≤ 10000) (hn : xs.length ≤ 100) (hx : ∀ p ∈ xs, p.1.length ≤ 8 ∧ p.2.length ≤ 16) (ho : OwnB W w A n c l) (hr : RdP W W.heap.size A' n' xs) (hB : Below W.heap.size W w) :
    Calls Tryz.prog 57 #[.slice A n c, .slice A' n' c', .func (.func 58) #[] #[]] w (GotPut W w (l ++ (encN xs.length ++ encP xs))) := by
  obtain rfl := own_len ho
  have hlen : xs.length = n' := hr.length
  subst hlen
  have HR := Lib.hid hr
  have HX := Lib.hid hx
  have HLEN : Hid (∀ k, k ≤ xs.length → (l ++ (encN xs.length ++ encP (xs.take k))).length ≤ 20000) := Lib.hid (fun k hk => by
    have h1 := encN_length xs.length
    have h2 := encP_length (ps := xs.take k) (fun y hy => hx y (List.mem_of_mem_take hy))
    have h3 : (xs.take k).length ≤ k := List.length_take_le _ _
    simp only [List.length_append]; omega)
  have HC := Lib.hid (putNum_any (W := W) (xs.length : Int) (by omega) ho hB)
  obtain ⟨l0, e0⟩ : ∃ x, l ++ Pk.enc (Pk.held (xs.length : Int)) = x := ⟨_, rfl⟩
  rw [e0] at HC
  have HE0 : Hid (∀ y, l ++ (encN xs.length ++ y) = l0 ++ y) := Lib.hid (fun y => by rw [← e0, ← List.append_assoc]; rfl)
  rw [HE0.out] 
  clear ho hB hr e0 hx 
  go_enter Tryz.func57, Tryz.ntmps57
  go_wp2_with (first
    | (go_at_call 56; refine HC.out.mono ?_; rintro e w1 ⟨A1, c1, rfl, ho1, hB1, hb1⟩)
    | fail)
  have HO1 := Lib.hid ho1
  have HB1 := Lib.hid hB1
  have HU1 := Lib.hid hb1
  clear ho1 hB1 hb1 HC
  go_loopw [0, 8, 15] (fun s0 s8 s15 wr => ∃ (k : Nat) (A2 : Option Addr) (c2 : Nat) (L : List Nat), k ≤ xs.length ∧ s15 = .int .i64 (k : Int) ∧ s0 = .slice A2 L.length c2 ∧ Hid (L = l0 ++ encP (xs.take k)) ∧ Hid (OwnB W wr A2 L.length c2 L) ∧ Hid (Below W.heap.size W wr) ∧ Hid (OnlyB w wr)) (fun _ _ s15 _ => xs.length - (intOf s15).toNat)
  case atStart => exact ⟨0, A1, c1, l0, Nat.zero_le _, rfl, rfl, Lib.hid (by simp [encP]), HO1, HB1, HU1⟩
  case round =>
    obtain ⟨k, A2, c2, L, hk, rfl, rfl, HL, HO, HB, HU⟩ := hrel
    by_cases hlt : k < xs.length
    · obtain ⟨b, o, x, A3, c3, A4, c4, rfl, hxk, hc0, hc1, hrd, hrd2⟩ := HR.out.at hlt
      have y0 := cell_of HB.out hc0
      have y1 := cell_of HB.out hc1
      have hLL : L.length ≤ 1000000 := by have := HLEN.out k hk; rw [HE0.out, ← HL.out] at this; omega
      have hLS : L.length ≤ 20000 := by have := HLEN.out k hk; rwa [HE0.out, ← HL.out] at this
      have b0 : Below wr.heap.size wr (wr.alloc (.cells #[.slice A3 x.1.length c3, .slice A4 x.2.length c4] 86)) := (Below.refl _ _).alloc (Nat.le_refl _) _
      have HB0 := Lib.hid b0
      have HP := Lib.hid hxk
      have HC := Lib.hid (putPair_any (W := W) (c1 := c3) (c2 := c4) (p := x) (by omega) (Nat.le_trans (HX.out x (List.mem_of_getElem? hxk)).1 (by omega)) (Nat.le_trans (HX.out x (List.mem_of_getElem? hxk)).2 (by omega)) (own_below HO.out b0) hrd hrd2 (HB.out.trans (b0.mono HB.out.size)))
      obtain ⟨L', eL⟩ : ∃ y, L ++ Pk.encB x.1 ++ Pk.encB x.2 = y := ⟨_, rfl⟩
      rw [eL] at HC
      have HEL := Lib.hid eL
      clear eL hxk b0
      go_wp2_with (first
        | (go_at_call 58; refine HC.out.mono ?_; rintro e w4 ⟨A5, c5, rfl, ho5, hB5, hb5⟩)
        | fail)
      go_roundw
      case rel =>
        refine ⟨k + 1, A5, c5, L', by omega, by go_num, rfl, Lib.hid ?_, Lib.hid ho5, Lib.hid hB5, Lib.hid (HU.out.trans ((OnlyB.of_below HB0.out).trans hb5))⟩
        rw [← HEL.out, HL.out, take_snoc HP.out, encP_snoc]
        simp only [List.append_assoc]
      case measure => simp only [intOf]; omega
    · obtain rfl : k = xs.length := by omega
      go_wp2_with fail
      go_ret
      exact GotPut.is (l := L) ⟨A2, c2, rfl, HO.out, HB.out, HU.out⟩ (by rw [HL.out, List.take_of_length_le (Nat.le_refl _)])
theorem encT_snoc1 (ls : List Ls) (l : Ls) : encT (ls ++ [l]) = encT ls ++ encL1 l := by simp [encT]
set_option maxHeartbeats 2000000 in
set_option maxRecDepth 100000 in
theorem putEachT_any {W w : World} {A A' : Option Addr} {n c n' c' : Nat} {l : List Nat} {xs : List Ls} (hl : l.length ≤ 10000) (hn : xs.length ≤ 100) (hx : ∀ m ∈ xs, m.v.length ≤ 16) (hm : ∀ m ∈ xs, -1 ≤ m.n ∧ m.n ≤ 1073741824) (ho : OwnB W w A n c l) (hr : RdL W W.heap.size A' n' xs) (hB : Below W.heap.size W w) :
    Calls Tryz.prog 59 #[.slice A n c, .slice A' n' c', .func (.func 60) #[] #[]] w (GotPut W w (l ++ (encN xs.length ++ encT xs))) := by
  obtain rfl := own_len ho
  have hlen : xs.length = n' := hr.length
  subst hlen
  have HR := Lib.hid hr
  have HX := Lib.hid hx
  have HM := Lib.hid hm
  have HLEN : Hid (∀ k, k ≤ xs.length → (l ++ (encN xs.length ++ encT (xs.take k))).length ≤ 20000) := Lib.hid (fun k hk => by
    have h1 := encN_length xs.length
    have h2 := encT_length (ls := xs.take k) (fun y hy => hx y (List.mem_of_mem_take hy))
    have h3 : (xs.take k).length ≤ k := List.length_take_le _ _
    simp only [List.length_append]; omega)
  have HC := Lib.hid (putNum_any (W := W) (xs.length : Int) (by omega) ho hB)
  obtain ⟨l0, e0⟩ : ∃ x, l ++ Pk.enc (Pk.held (xs.length : Int)) = x := ⟨_, rfl⟩
  rw [e0] at HC
  have HE0 : Hid (∀ y, l ++ (encN xs.length ++ y) = l0 ++ y) := Lib.hid (fun y => by rw [← e0, ← List.append_assoc]; rfl)
  rw [HE0.out] 
  clear ho hB hr e0 hx hm
  go_enter Tryz.func59, Tryz.ntmps59
  go_wp2_with (first
    | (go_at_call 56; refine HC.out.mono ?_; rintro e w1 ⟨A1, c1, rfl, ho1, hB1, hb1⟩)
    | fail)
  have HO1 := Lib.hid ho1
  have HB1 := Lib.hid hB1
  have HU1 := Lib.hid hb1
  clear ho1 hB1 hb1 HC
  go_loopw [0, 8, 15] (fun s0 s8 s15 wr => ∃ (k : Nat) (A2 : Option Addr) (c2 : Nat) (L : List Nat), k ≤ xs.length ∧ s15 = .int .i64 (k : Int) ∧ s0 = .slice A2 L.length c2 ∧ Hid (L = l0 ++ encT (xs.take k)) ∧ Hid (OwnB W wr A2 L.length c2 L) ∧ Hid (Below W.heap.size W wr) ∧ Hid (OnlyB w wr)) (fun _ _ s15 _ => xs.length - (intOf s15).toNat)
  case atStart => exact ⟨0, A1, c1, l0, Nat.zero_le _, rfl, rfl, Lib.hid (by simp [encT]), HO1, HB1, HU1⟩
  case round =>
    obtain ⟨k, A2, c2, L, hk, rfl, rfl, HL, HO, HB, HU⟩ := hrel
    by_cases hlt : k < xs.length
    · obtain ⟨b, o, x, A3, c3, rfl, hxk, hc0, hc1, hc2, hc3, hc4, hrd⟩ := HR.out.at hlt
      have y0 := cell_of HB.out hc0
      have y1 := cell_of HB.out hc1
      have y2 := cell_of HB.out hc2
      have y3 := cell_of HB.out hc3
      have y4 := cell_of HB.out hc4
      have hLL : L.length ≤ 1000000 := by have := HLEN.out k hk; rw [HE0.out, ← HL.out] at this; omega
      have hLS : L.length ≤ 20000 := by have := HLEN.out k hk; rwa [HE0.out, ← HL.out] at this
      have b0 : Below wr.heap.size wr (wr.alloc (.cells #[.int .i64 x.s, .int .i64 x.q, .int .i64 x.e, .slice A3 x.v.length c3, .int .i64 x.n] 54)) := (Below.refl _ _).alloc (Nat.le_refl _) _
      have HB0 := Lib.hid b0
      have HP := Lib.hid hxk
      have HC := Lib.hid (putLast_any (W := W) (c1 := c3) (m := x) (by omega) (Nat.le_trans (HX.out x (List.mem_of_getElem? hxk)) (by omega)) (HM.out x (List.mem_of_getElem? hxk)) (own_below HO.out b0) hrd (HB.out.trans (b0.mono HB.out.size)))
      obtain ⟨L', eL⟩ : ∃ y, L ++ encL1 x = y := ⟨_, rfl⟩
      rw [eL] at HC
      have HEL := Lib.hid eL
      clear eL hxk b0
      go_wp2_with (first
        | (go_at_call 60; refine HC.out.mono ?_; rintro e w4 ⟨A5, c5, rfl, ho5, hB5, hb5⟩)
        | fail)
      go_roundw
      case rel =>
        refine ⟨k + 1, A5, c5, L', by omega, by go_num, rfl, Lib.hid ?_, Lib.hid ho5, Lib.hid hB5, Lib.hid (HU.out.trans ((OnlyB.of_below HB0.out).trans hb5))⟩
        rw [← HEL.out, HL.out, take_snoc HP.out, encT_snoc1]
        simp only [List.append_assoc]
      case measure => simp only [intOf]; omega
    · obtain rfl : k = xs.length := by omega
      go_wp2_with fail
      go_ret
      exact GotPut.is (l := L) ⟨A2, c2, rfl, HO.out, HB.out, HU.out⟩ (by rw [HL.out, List.take_of_length_le (Nat.le_refl _)])
end Go.Proofs.YthfnnieklkaefaaGreat

namespace Go.Proofs.YthfnnieklkaefaaGreat
open Go.RowKit
set_option linter.unusedVariables false
/-- an entry's seven cells -/
def entL (a : CA) (e : En) : List Value := [.int .i64 e.s, .int .i64 e.q, .int .i64 e.c.kind, .int .i64 e.c.who, .slice a.Ak e.c.key.length a.ck, .slice a.Av e.c.val.length a.cv, .slice a.Ao e.c.old.length a.co]
theorem entL_length (a : CA) (e : En) : (entL a e).length = 7 := rfl
theorem entL_one (a : CA) (e : En) : ∀ u ∈ entL a e, u.oneCell' = true := by
  intro u hu
  unfold entL at hu
  simp only [List.mem_cons, List.not_mem_nil, or_false] at hu
  rcases hu with rfl | rfl | rfl | rfl | rfl | rfl | rfl <;> rfl
theorem Rd.entAt (w : World) (a : CA) (e : En) (t : TypeId) {g : Nat} (hg : w.heap.size = g) : Rd (w.alloc (.cells #[.int .i64 e.s, .int .i64 e.q, .int .i64 e.c.kind, .int .i64 e.c.who, .slice a.Ak e.c.key.length a.ck, .slice a.Av e.c.val.length a.cv, .slice a.Ao e.c.old.length a.co] t)) (g + 1) (some ⟨g, 0, none⟩) (1 * 7) (entL a e) := by
  subst hg; exact Rd.made w #[.int .i64 e.s, .int .i64 e.q, .int .i64 e.c.kind, .int .i64 e.c.who, .slice a.Ak e.c.key.length a.ck, .slice a.Av e.c.val.length a.cv, .slice a.Ao e.c.old.length a.co] t (0, 0) 7 rfl
/-- the cells vs, seven a piece, read as the entries es; each one's rows fulfil R -/
structure CellsE (R : CA → Cm → Prop) (vs : List Value) (es : List En) : Prop where
  len : vs.length = es.length * 7
  cell : ∀ (i : Nat) (e : En), es[i]? = some e → ∃ a, (∀ j v, (entL a e)[j]? = some v → vs[i * 7 + j]? = some v) ∧ R a e.c
section
variable {R R' : CA → Cm → Prop} {vs ws : List Value} {es ds : List En}
theorem CellsE.imp (h : CellsE R vs es) (hR : ∀ a c, R a c → R' a c) : CellsE R' vs es :=
  ⟨h.len, fun i e he => by obtain ⟨a, h1, h2⟩ := h.cell i e he; exact ⟨a, h1, hR _ _ h2⟩⟩
theorem CellsE.nil : CellsE R [] [] := ⟨rfl, fun i e h => by simp at h⟩
theorem CellsE.one {a : CA} {e : En} (h : R a e.c) : CellsE R (entL a e) [e] :=
  ⟨rfl, fun i e' he => by
    cases i with
    | zero => simp at he; subst he; exact ⟨a, fun j v hv => by simpa using hv, h⟩
    | succ i => simp at he⟩
theorem entL_lt {a : CA} {e : En} {j : Nat} {v : Value} (h : (entL a e)[j]? = some v) : j < 7 := by
  rcases Nat.lt_or_ge j 7 with h' | h'
  · exact h'
  · rw [List.getElem?_eq_none (by rw [entL_length]; exact h')] at h; cases h
theorem CellsE.append (h : CellsE R vs es) (h' : CellsE R ws ds) : CellsE R (vs ++ ws) (es ++ ds) := by
  refine ⟨by rw [List.length_append, List.length_append, h.len, h'.len, Nat.add_mul], fun i e he => ?_⟩
  by_cases hi : i < es.length
  · rw [List.getElem?_append_left hi] at he
    obtain ⟨a, h1, h2⟩ := h.cell i e he
    refine ⟨a, fun j v hv => ?_, h2⟩
    have hj := entL_lt hv
    rw [List.getElem?_append_left (by rw [h.len]; omega)]
    exact h1 j v hv
  · rw [List.getElem?_append_right (by omega)] at he
    obtain ⟨a, h1, h2⟩ := h'.cell _ e he
    refine ⟨a, fun j v hv => ?_, h2⟩
    rw [List.getElem?_append_right (by rw [h.len]; omega), h.len, show i * 7 + j - es.length * 7 = (i - es.length) * 7 + j by omega]
    exact h1 j v hv
theorem CellsE.drop (h : CellsE R vs es) (k : Nat) : CellsE R (vs.drop (k * 7)) (es.drop k) :=
  ⟨by rw [List.length_drop, List.length_drop, h.len, Nat.sub_mul], fun i e he => by
    rw [List.getElem?_drop] at he
    obtain ⟨a, h1, h2⟩ := h.cell _ e he
    refine ⟨a, fun j v hv => ?_, h2⟩
    rw [List.getElem?_drop, show k * 7 + (i * 7 + j) = (k + i) * 7 + j by omega]
    exact h1 j v hv⟩
theorem CellsE.take (h : CellsE R vs es) (k : Nat) : CellsE R (vs.take (k * 7)) (es.take k) := by
  refine ⟨by rw [List.length_take, List.length_take, h.len]; omega, fun i e he => ?_⟩
  have hi : i < k := by
    rcases Nat.lt_or_ge i k with h' | h'
    · exact h'
    · rw [List.getElem?_take_eq_none h'] at he; cases he
  rw [List.getElem?_take_of_lt hi] at he
  obtain ⟨a, h1, h2⟩ := h.cell _ e he
  refine ⟨a, fun j v hv => ?_, h2⟩
  have hj := entL_lt hv
  rw [List.getElem?_take_of_lt (by omega)]
  exact h1 j v hv
theorem CellsE.oneCell (h : CellsE R vs es) : ∀ u ∈ vs, u.oneCell' = true := by
  intro u hu
  obtain ⟨k, hk, e⟩ := List.getElem_of_mem hu
  have hlt : k / 7 < es.length := by have := h.len; omega
  obtain ⟨a, h1, _⟩ := h.cell (k / 7) es[k / 7] (List.getElem?_eq_getElem hlt)
  have hm : k % 7 < 7 := Nat.mod_lt _ (by omega)
  obtain ⟨v, hv⟩ : ∃ v, (entL a es[k / 7])[k % 7]? = some v := ⟨(entL a es[k / 7])[k % 7]'(by rw [entL_length]; exact hm), List.getElem?_eq_getElem (by rw [entL_length]; exact hm)⟩
  have h3 := h1 _ v hv
  rw [show k / 7 * 7 + k % 7 = k by omega, List.getElem?_eq_getElem hk, e] at h3
  injection h3 with h3
  subst h3
  exact entL_one _ _ _ (List.mem_of_getElem? hv)
end
/-- a row of entries -/
def RdE (w : World) (B : Nat) (A : Option Addr) (n : Nat) (es : List En) : Prop := ∃ vs, Rd w B A (n * 7) vs ∧ CellsE (fun a c => RdC w B a c) vs es
section
variable {w w' : World} {B n k : Nat} {A : Option Addr} {es : List En}
theorem RdE.below (h : RdE w B A n es) (hb : Below B w w') : RdE w' B A n es := by obtain ⟨vs, h1, h2⟩ := h; exact ⟨vs, h1.below hb, h2.imp fun _ _ h => h.below hb⟩
theorem RdE.fit (h : RdE w B A n es) : RdE w w.heap.size A n es := by obtain ⟨vs, h1, h2⟩ := h; exact ⟨vs, h1.fit, h2.imp fun _ _ h => h.fit⟩
theorem RdE.length (h : RdE w B A n es) : es.length = n := by
  obtain ⟨vs, h1, h2⟩ := h
  have := h2.len
  rw [h1.1] at this
  omega
/-- one entry of it -/
theorem RdE.at (h : RdE w B A n es) (hk : k < n) : ∃ b o e a, A = some ⟨b, o, none⟩ ∧ es[k]? = some e ∧
    (w.cell? ⟨b, o + k * 7, none⟩ = some (.int .i64 e.s) ∧ w.cell? ⟨b, o + k * 7 + 1, none⟩ = some (.int .i64 e.q) ∧ w.cell? ⟨b, o + k * 7 + 2, none⟩ = some (.int .i64 e.c.kind) ∧
    w.cell? ⟨b, o + k * 7 + 3, none⟩ = some (.int .i64 e.c.who) ∧ w.cell? ⟨b, o + k * 7 + 4, none⟩ = some (.slice a.Ak e.c.key.length a.ck) ∧ w.cell? ⟨b, o + k * 7 + 5, none⟩ = some (.slice a.Av e.c.val.length a.cv) ∧ w.cell? ⟨b, o + k * 7 + 6, none⟩ = some (.slice a.Ao e.c.old.length a.co)) ∧ RdC w B a e.c := by
  have hlen := h.length
  obtain ⟨vs, h1, h2⟩ := h
  obtain ⟨b, o, e1, _, hc⟩ := h1.2 (by omega)
  obtain ⟨e, he⟩ : ∃ e, es[k]? = some e := ⟨_, List.getElem?_eq_getElem (by omega)⟩
  obtain ⟨a, e2, r1⟩ := h2.cell k e he
  have hh : ∀ j v, (entL a e)[j]? = some v → w.cell? ⟨b, o + k * 7 + j, none⟩ = some v := fun j v hv => by
    have hj := entL_lt hv
    rw [Nat.add_assoc, hc _ (by omega), e2 j v hv]
  exact ⟨b, o, e, a, e1, he, ⟨hh 0 _ rfl, hh 1 _ rfl, hh 2 _ rfl, hh 3 _ rfl, hh 4 _ rfl, hh 5 _ rfl, hh 6 _ rfl⟩, r1⟩
end
section
variable {P : Program} {t e : TypeId} {z : Value} {size bytes : Nat}
theorem wpList_append_E {W w : World} (hT : CellS P t e z size bytes) {ops : Array Oper} {rest : List Oper} {o : Oper} {a : Act} {Q : Exit → Act → World → Prop} (s x : Operand)
    (ho : o.op = .call { callee := .builtin .append, args := #[s, x], argTypes := #[t, t] }) (hw : Region.wanted o (yielded ops a.tmps) = true)
    {A : Option Addr} {n c : Nat} {vs : List Value} (hs : a.eval s = .slice A n c) (hown : w.ownsRow W.heap.size e size (.slice A n c) n vs)
    {B : Nat} {A' : Option Addr} {m c' : Nat} {ws : List Value} (hx : a.eval x = .slice A' m c') (hr : Rd w B A' (m * size) ws) (h1 : ∀ u ∈ ws, u.oneCell' = true) (hnm : n + m ≤ 1073741824) (hby : bytes ≤ 1000) (hB : Below W.heap.size W w)
    (h : ∀ A2 c2 w2, w2.ownsRow W.heap.size e size (.slice A2 (n + m) c2) (n + m) (vs ++ ws) → Below W.heap.size W w2 → w.grownBy w2 (Value.slice A n c).ownBlock → wpList P ops Q rest (a.put o.dst (.slice A2 (n + m) c2)) w2) :
    wpList P ops Q (o :: rest) a w := by
  obtain ⟨i, hi, hz, hsz, hbi⟩ := info_parts hT.info
  obtain ⟨v', w', hrun, h2, h3, h4⟩ := run_append_rdS (P := P) w W.heap.size t o.type e i z size bytes hT.under hi hz hsz hbi hT.one hT.pos _ n vs hown B A' m c' ws hr h1
    (by unfold maxLen; omega) (by have := Nat.mul_le_mul hnm hby; omega) hB.size
  have hlt := hown.lt
  have hB2 : Below W.heap.size W w' := hB.grown h3 hB.size (fun k hk => (hlt k hk).1)
  obtain ⟨A2, c2, rfl, hr2⟩ := Rd.of_ownS h2 hT.pos
  have hgo := h A2 c2 w' h2 hB2 h3
  unfold wpList
  rw [if_pos hw]
  refine Or.inl ?_
  unfold Oper.wp execOp
  simp only [ho, resolve, invoke, builtin, Sem.run_bind, Sem.run_pure, Result.andThen_ok, List.map_toArray, List.map_cons, List.map_nil, hs, hx, hrun]
  exact hgo
theorem wp_append_E {W w : World} (hT : CellS P t e z size bytes) {o : Oper} {a : Act} {next : Act → World → Prop} {Q : Exit → Act → World → Prop} (s x : Operand)
    (ho : o.op = .call { callee := .builtin .append, args := #[s, x], argTypes := #[t, t] })
    {A : Option Addr} {n c : Nat} {vs : List Value} (hs : a.eval s = .slice A n c) (hown : w.ownsRow W.heap.size e size (.slice A n c) n vs)
    {B : Nat} {A' : Option Addr} {m c' : Nat} {ws : List Value} (hx : a.eval x = .slice A' m c') (hr : Rd w B A' (m * size) ws) (h1 : ∀ u ∈ ws, u.oneCell' = true) (hnm : n + m ≤ 1073741824) (hby : bytes ≤ 1000) (hB : Below W.heap.size W w)
    (h : ∀ A2 c2 w2, w2.ownsRow W.heap.size e size (.slice A2 (n + m) c2) (n + m) (vs ++ ws) → Below W.heap.size W w2 → w.grownBy w2 (Value.slice A n c).ownBlock → next (a.put o.dst (.slice A2 (n + m) c2)) w2) :
    o.wp P a w next Q := by
  obtain ⟨i, hi, hz, hsz, hbi⟩ := info_parts hT.info
  obtain ⟨v', w', hrun, h2, h3, h4⟩ := run_append_rdS (P := P) w W.heap.size t o.type e i z size bytes hT.under hi hz hsz hbi hT.one hT.pos _ n vs hown B A' m c' ws hr h1
    (by unfold maxLen; omega) (by have := Nat.mul_le_mul hnm hby; omega) hB.size
  have hlt := hown.lt
  have hB2 : Below W.heap.size W w' := hB.grown h3 hB.size (fun k hk => (hlt k hk).1)
  obtain ⟨A2, c2, rfl, hr2⟩ := Rd.of_ownS h2 hT.pos
  have hgo := h A2 c2 w' h2 hB2 h3
  unfold Oper.wp execOp
  simp only [ho, resolve, invoke, builtin, Sem.run_bind, Sem.run_pure, Result.andThen_ok, List.map_toArray, List.map_cons, List.map_nil, hs, hx, hrun]
  exact hgo
theorem step_append_E {W w : World} (hT : CellS P t e z size bytes) {ops : Array Oper} {o : Oper} {a : Act} {K : Act → World → Prop} {Q : Exit → Act → World → Prop} {E : Prop} (s x : Operand)
    (ho : o.op = .call { callee := .builtin .append, args := #[s, x], argTypes := #[t, t] }) (hg : o.guard = none)
    {A : Option Addr} {n c : Nat} {vs : List Value} (hs : a.eval s = .slice A n c) (hown : w.ownsRow W.heap.size e size (.slice A n c) n vs)
    {B : Nat} {A' : Option Addr} {m c' : Nat} {ws : List Value} (hx : a.eval x = .slice A' m c') (hr : Rd w B A' (m * size) ws) (h1 : ∀ u ∈ ws, u.oneCell' = true) (hnm : n + m ≤ 1073741824) (hby : bytes ≤ 1000) (hB : Below W.heap.size W w)
    (h : ∀ A2 c2 w2, w2.ownsRow W.heap.size e size (.slice A2 (n + m) c2) (n + m) (vs ++ ws) → Below W.heap.size W w2 → w.grownBy w2 (Value.slice A n c).ownBlock → K (a.put o.dst (.slice A2 (n + m) c2)) w2) :
    if Region.wanted o (yielded ops a.tmps) = true then Oper.wp P o a w K Q else E := by
  have hw : Region.wanted o (yielded ops a.tmps) = true := by simp [Region.wanted, hg]
  rw [if_pos hw]
  exact wp_append_E hT s x ho hs hown hx hr h1 hnm hby hB h
theorem step_append_EN {W w : World} (hT : CellS P t e z size bytes) {ops : Array Oper} {o : Oper} {a : Act} {K : Act → World → Prop} {Q : Exit → Act → World → Prop} {E : Prop} (s x : Operand)
    (ho : o.op = .call { callee := .builtin .append, args := #[s, x], argTypes := #[t, t] }) (hg : o.guard = none)
    {A : Option Addr} {n c : Nat} {vs : List Value} (hs : a.eval s = .slice A n c) (hown : w.ownsRow W.heap.size e size (.slice A n c) n vs)
    {B : Nat} {A' : Option Addr} {m c' : Nat} {ws : List Value} (hx : a.eval x = .slice A' m c') (hr : Rd w B A' (m * size) ws) (h1 : ∀ u ∈ ws, u.oneCell' = true) {N : Nat} (hN : n + m = N) (hnm : N ≤ 1073741824) (hby : bytes ≤ 1000) (hB : Below W.heap.size W w)
    (h : ∀ A2 c2 w2, w2.ownsRow W.heap.size e size (.slice A2 N c2) N (vs ++ ws) → Below W.heap.size W w2 → w.grownBy w2 (Value.slice A n c).ownBlock → K (a.put o.dst (.slice A2 N c2)) w2) :
    if Region.wanted o (yielded ops a.tmps) = true then Oper.wp P o a w K Q else E := by
  subst hN
  exact step_append_E hT s x ho hg hs hown hx hr h1 hnm hby hB h
end
theorem cellE : CellS Tryz.prog 23 28 (.agg #[.int .i64 0, .int .i64 0, .int .i64 0, .int .i64 0, .slice none 0 0, .slice none 0 0, .slice none 0 0]) 7 104 := ⟨Tryz.underlying23, by kernel_rfl, rfl, by omega⟩
theorem Rd.rowOther {w w' : World} {B g o n : Nat} {vs : List Value} {row : Option Nat} (h : Rd w B (some ⟨g, o, none⟩) n vs) (hg : w.grownBy w' row) (hne : ∀ k, row = some k → k ≠ g) : Rd w' w'.heap.size (some ⟨g, o, none⟩) n vs := by
  refine Rd.fit (B := w.heap.size) ⟨h.1, fun hn => ?_⟩
  obtain ⟨b', o', e, hb, hc⟩ := h.fit.2 hn
  injection e with e
  injection e with e1 e2
  subst e1 e2
  refine ⟨_, _, rfl, hb, fun i hi => ?_⟩
  rw [← hc i hi]
  exact World.cell?_of_block (hg.block _ hb (fun h => hne _ h.symm rfl))
/-- a row of bytes that begins where its block does, over what an own row of entries turns -/
theorem Rd.rowE {w w' : World} {base B n c m g : Nat} {A : Option Addr} {vs : List Value} {es : List En} {R : CA → Cm → Prop} {l : List Nat} (h : Rd w B (some ⟨g, 0, none⟩) m (bv l)) (ho : w.ownsRow base 28 7 (.slice A n c) n vs) (hc : CellsE R vs es)
    (hne : 0 < n ∨ A = none) (hg : w.grownBy w' (Value.slice A n c).ownBlock) : Rd w' w'.heap.size (some ⟨g, 0, none⟩) m (bv l) := by
  rcases Nat.eq_zero_or_pos m with rfl | hm
  · exact ⟨h.1, fun h0 => absurd h0 (by omega)⟩
  · obtain ⟨b, o, e, hb, hcl⟩ := h.fit.2 hm
    injection e with e
    injection e with e1 e2
    subst e1 e2
    have hne2 : (Value.slice A n c).ownBlock ≠ some g := by
      rcases hne with hn | hA
      · rcases ho.2 with ⟨h1, h2⟩ | ⟨g', cap, cur, hv, _, hh, _, _, hsz, htk⟩
        · omega
        · rw [hv]
          intro h0
          have h1 : g' = g := by simpa [Value.ownBlock] using h0
          subst h1
          have h2 := hcl 0 hm
          have hl : 0 < l.length := by have := h.1; rw [bv_length] at this; omega
          rw [show (bv l)[0]? = some (.int .u8 ((l[0] : Nat) : Int)) by unfold bv; simp [List.getElem?_eq_getElem hl]] at h2
          have hk : Blk w g' 28 cur := hh
          rw [hk.cell, Nat.add_zero] at h2
          have hlen := hc.len
          have hvl := ho.1
          obtain ⟨e0, he0⟩ : ∃ e0, es[0]? = some e0 := ⟨_, List.getElem?_eq_getElem (by omega)⟩
          obtain ⟨a0, k1, _⟩ := hc.cell 0 e0 he0
          have h3 := k1 0 _ rfl
          rw [← htk, List.getElem?_take_of_lt (by omega)] at h3
          rw [Nat.zero_mul, Nat.zero_add, Array.getElem?_toList] at h3
          rw [h2] at h3
          injection h3 with h3
          cases h3
      · subst hA
        intro h0; cases h0
    refine Rd.fit (B := w.heap.size) ⟨h.1, fun _ => ⟨g, 0, rfl, hb, fun i hi => ?_⟩⟩
    rw [← hcl i hi]
    exact World.cell?_of_block (hg.block g hb (fun h => hne2 h.symm))
theorem RdC.rowE {w w' : World} {base B n c : Nat} {A : Option Addr} {vs : List Value} {es : List En} {R : CA → Cm → Prop} {a : CA} {k : Cm} (h : RdC w B a k) (hz : a.Z) (ho : w.ownsRow base 28 7 (.slice A n c) n vs) (hc : CellsE R vs es)
    (hne : 0 < n ∨ A = none) (hg : w.grownBy w' (Value.slice A n c).ownBlock) : RdC w' w'.heap.size a k := by
  obtain ⟨⟨g1, e1⟩, ⟨g2, e2⟩, ⟨g3, e3⟩⟩ := hz
  have h1 := h.rk
  have h2 := h.rv
  have h3 := h.ro
  rw [e1] at h1
  rw [e2] at h2
  rw [e3] at h3
  exact ⟨by rw [e1]; exact h1.rowE ho hc hne hg, by rw [e2]; exact h2.rowE ho hc hne hg, by rw [e3]; exact h3.rowE ho hc hne hg⟩
/-- a row of the call's own; the bytes of its entries may lie anywhere, each at its block's beginning -/
def OwnE (W w : World) (A : Option Addr) (n c : Nat) (es : List En) : Prop := ∃ vs, w.ownsRow W.heap.size 28 7 (.slice A n c) n vs ∧ CellsE (fun a k => RdC w w.heap.size a k ∧ a.Z) vs es
theorem OwnE.below {W w w' : World} {A : Option Addr} {n c : Nat} {es : List En} (h : OwnE W w A n c es) (hb : Below w.heap.size w w') : OwnE W w' A n c es := by
  obtain ⟨vs, h1, h2⟩ := h
  exact ⟨vs, ownsRow_below h1 hb, h2.imp fun _ _ h => ⟨h.1.below' hb, h.2⟩⟩
theorem OwnE.nil (W w : World) : OwnE W w none 0 0 [] := ⟨[], ⟨rfl, .inl ⟨rfl, rfl⟩⟩, CellsE.nil⟩
theorem OwnE.rd {W w : World} {A : Option Addr} {n c : Nat} {es : List En} (h : OwnE W w A n c es) : RdE w w.heap.size A n es := by
  obtain ⟨vs, h1, h2⟩ := h
  exact ⟨vs, Rd.ownS h1 (by omega), h2.imp fun _ _ h => h.1⟩
theorem OwnE.length {W w : World} {A : Option Addr} {n c : Nat} {es : List En} (h : OwnE W w A n c es) : es.length = n := h.rd.length
theorem OwnE.cap {W w : World} {A : Option Addr} {n c : Nat} {es : List En} (h : OwnE W w A n c es) : n ≤ c := by
  obtain ⟨vs, h1, _⟩ := h
  exact (own_cap h1).1
/-- an entry more -/
theorem OwnE.snoc {W w w' : World} {A A2 : Option Addr} {n c c2 : Nat} {vs : List Value} {es : List En} {a : CA} {e : En} (ho : w.ownsRow W.heap.size 28 7 (.slice A n c) n vs) (hc : CellsE (fun a k => RdC w w.heap.size a k ∧ a.Z) vs es) (hr : RdC w w.heap.size a e.c) (hz : a.Z)
    (hne : 0 < n ∨ A = none) (hg : w.grownBy w' (Value.slice A n c).ownBlock) (ho2 : w'.ownsRow W.heap.size 28 7 (.slice A2 (n + 1) c2) (n + 1) (vs ++ entL a e)) : OwnE W w' A2 (n + 1) c2 (es ++ [e]) := by
  exact ⟨vs ++ entL a e, ho2, (hc.imp fun _ _ h => ⟨h.1.rowE h.2 ho hc hne hg, h.2⟩).append (CellsE.one (R := fun a k => RdC w' w'.heap.size a k ∧ a.Z) ⟨hr.rowE hz ho hc hne hg, hz⟩)⟩
end Go.Proofs.YthfnnieklkaefaaGreat

namespace Go.Proofs.YthfnnieklkaefaaGreat
open Go.RowKit
set_option linter.unusedVariables false
/-- entries, one behind the other -/
def Mc.run (m : Mc) (es : List En) : Mc := es.foldl (fun m e => (m.step e).m) m
theorem Mc.run_append (m : Mc) (a b : List En) : m.run (a ++ b) = (m.run a).run b := by unfold Mc.run; rw [List.foldl_append]
theorem Mc.run_one (m : Mc) (e : En) : m.run [e] = (m.step e).m := rfl
theorem Mc.run_snoc (m : Mc) (a : List En) (e : En) : m.run (a ++ [e]) = ((m.run a).step e).m := by rw [Mc.run_append]; rfl
theorem Mc.Ok.run {m : Mc} (h : m.Ok) : ∀ {es : List En}, (∀ e ∈ es, e.c.Fits) → (m.run es).Ok := by
  intro es
  induction es generalizing m with
  | nil => intro _; exact h
  | cons e es ih =>
    intro he
    exact ih (m := (m.step e).m) (h.step (he e (by simp))) (fun x hx => he x (List.mem_cons_of_mem _ hx))
/-- asked again, it turns nothing -/
def Mc.Done (m : Mc) (e : En) : Prop := (Tb.look m.t e.s e.q).k ≠ 0
theorem Mc.Done.step {m : Mc} {e : En} (h : m.Done e) : (m.step e).m = m := by unfold Mc.step; rw [if_neg h]
theorem look_zero {ls : List Ls} {s q : Int} (h : (Tb.look ls s q).k = 0) : Tb.named s q ∧ ((∃ l, Tb.here ls s = some l ∧ l.q < q) ∨ (Tb.here ls s = none ∧ ls.length < 8)) := by
  unfold Tb.look at h
  split at h
  · rename_i hn
    refine ⟨hn, ?_⟩
    split at h
    · rename_i l hl
      split at h
      · simp at h
      · split at h
        · simp at h
        · left; exact ⟨l, hl, by omega⟩
    · rename_i hl
      split at h
      · simp at h
      · right; exact ⟨hl, by omega⟩
  · simp at h
theorem Mc.done_self {m : Mc} (hr : Tb.Rises m.t) (e : En) : (m.step e).m.Done e := by
  by_cases hk : (Tb.look m.t e.s e.q).k = 0
  · unfold Mc.step
    rw [if_pos hk]
    intro h0
    obtain ⟨_, h1⟩ := look_zero h0
    have h2 := Tb.here_put (ls := m.t) (l := ⟨e.s, e.q, (m.o.apply e.c).e, (m.o.apply e.c).v, (m.o.apply e.c).n⟩)
    simp only at h1 h2
    rcases h1 with ⟨l, h3, h4⟩ | ⟨h3, _⟩
    · rw [h2] at h3
      injection h3 with h3
      subst h3
      simp at h4
    · rw [h2] at h3; cases h3
  · have h1 := Mc.Done.step (m := m) (e := e) hk
    unfold Mc.Done
    rw [h1]
    exact hk
theorem Mc.done_keep {m : Mc} (hr : Tb.Rises m.t) {e : En} (h : m.Done e) (e' : En) : (m.step e').m.Done e := by
  by_cases hk : (Tb.look m.t e'.s e'.q).k = 0
  · obtain ⟨hn', hc⟩ := look_zero hk
    unfold Mc.step
    rw [if_pos hk]
    intro h0
    obtain ⟨hn, h1⟩ := look_zero h0
    simp only at h1
    apply h
    by_cases hs : e.s = e'.s
    · have h2 := Tb.here_put (ls := m.t) (l := ⟨e'.s, e'.q, (m.o.apply e'.c).e, (m.o.apply e'.c).v, (m.o.apply e'.c).n⟩)
      simp only at h2
      rw [hs, h2] at h1
      rcases h1 with ⟨l, h3, h4⟩ | ⟨h3, _⟩
      · injection h3 with h3
        subst h3
        simp only at h4
        unfold Tb.look
        rw [if_pos hn, hs]
        rcases hc with ⟨l, h5, h6⟩ | ⟨h5, h6⟩
        · rw [h5]
          simp only
          rw [if_neg (by omega), if_neg (by omega)]
        · rw [h5]
          simp only
          rw [if_neg (by omega)]
      · cases h3
    · have h2 := Tb.here_put_ne (ls := m.t) (l := ⟨e'.s, e'.q, (m.o.apply e'.c).e, (m.o.apply e'.c).v, (m.o.apply e'.c).n⟩) (s := e.s) hs
      rw [h2] at h1
      unfold Tb.look
      rw [if_pos hn]
      rcases h1 with ⟨l, h3, h4⟩ | ⟨h3, h4⟩
      · rw [h3]
        simp only
        rw [if_neg (by omega), if_neg (by omega)]
      · rw [h3]
        simp only
        have h5 := Tb.length_put (ls := m.t) (l := ⟨e'.s, e'.q, (m.o.apply e'.c).e, (m.o.apply e'.c).v, (m.o.apply e'.c).n⟩) hr
        rw [h5] at h4
        rw [if_neg]
        split at h4 <;> omega
  · rw [Mc.Done.step hk]; exact h
theorem Mc.done_run {m : Mc} {e : En} : ∀ {es : List En}, m.Ok → (∀ x ∈ es, x.c.Fits) → m.Done e → (m.run es).Done e := by
  intro es
  induction es generalizing m with
  | nil => intro _ _ h; exact h
  | cons x es ih =>
    intro hM he h
    exact ih (m := (m.step x).m) (hM.step (he x (by simp))) (fun y hy => he y (List.mem_cons_of_mem _ hy)) (Mc.done_keep hM.t.rises h x)
/-- a call that comes again, behind it -/
theorem Mc.run_again {m : Mc} (hM : m.Ok) {es : List En} (he : ∀ x ∈ es, x.c.Fits) {p q : Nat} {e : En} (hpq : p ≤ q) (hp : es[p]? = some e) : m.run (es.take (q + 1) ++ [e] ++ es.drop (q + 1)) = m.run es := by
  have h1 : es.take (q + 1) = es.take p ++ [e] ++ (es.drop (p + 1)).take (q - p) := by
    have h2 : es.take (q + 1) = es.take (p + 1) ++ (es.drop (p + 1)).take (q - p) := by
      rw [show q + 1 = (p + 1) + (q - p) by omega, List.take_add]
    rw [h2, List.take_add_one, hp]; rfl
  have hd : (m.run (es.take (q + 1))).Done e := by
    rw [h1, Mc.run_append, Mc.run_snoc]
    have hf : ∀ x ∈ es.take p, x.c.Fits := fun x hx => he x (List.mem_of_mem_take hx)
    have hok := hM.run hf
    exact Mc.done_run (hok.step (he e (List.mem_of_getElem? hp))) (fun x hx => he x (List.mem_of_mem_drop (List.mem_of_mem_take hx))) (Mc.done_self hok.t.rises e)
  conv => rhs; rw [← List.take_append_drop (q + 1) es]
  rw [Mc.run_append, Mc.run_append, Mc.run_one, hd.step, Mc.run_append]
end Go.Proofs.YthfnnieklkaefaaGreat

