/- MachEntry MachBackCore -/
import Derived.Test.YthfnnieklkaefaaGreatQ01
import Derived.Test.YthfnnieklkaefaaGreatQ03
import Derived.Test.YthfnnieklkaefaaGreatQ15
import Derived.Deep.RegionLaw
namespace Go.Proofs.YthfnnieklkaefaaGreat
open Go.RowKit
set_option linter.unusedVariables false
/-- cells none of which is a byte -/
def NoByte (cs : Array Value) : Prop := ∀ (j x : Nat), cs[j]? ≠ some (.int .u8 (x : Int))
theorem NoByte.set {cs : Array Value} (h : NoByte cs) (i : Nat) {u : Value} (hu : ∀ x : Nat, u ≠ .int .u8 (x : Int)) : NoByte (cs.setIfInBounds i u) := by
  intro j x
  rw [Array.getElem?_setIfInBounds]
  split
  · split
    · intro h2; injection h2 with h2; exact hu x h2
    · simp
  · exact h j x
/-- a row of bytes lies not in a block without bytes -/
theorem Rd.setK {w : World} {B : Nat} {A : Option Addr} {n b i : Nat} {u : Value} {t : TypeId} {cs : Array Value} {l : List Nat} (h : Rd w B A n (bv l)) (hb : Blk w b t cs) (hk : NoByte cs) : Rd (w.setCell ⟨b, i, none⟩ u) (w.setCell ⟨b, i, none⟩ u).heap.size A n (bv l) := by
  rcases Nat.eq_zero_or_pos n with rfl | hn
  · exact ⟨h.1, fun h0 => absurd h0 (by omega)⟩
  · obtain ⟨g, o, rfl, hg, hc⟩ := h.2 hn
    refine h.set_ne ?_
    rintro rfl
    have h0 := hc 0 hn
    rw [hb.cell] at h0
    have hl : 0 < l.length := by have := h.1; rw [bv_length] at this; omega
    have h1 : (bv l)[0]? = some (.int .u8 (l[0] : Nat)) := by unfold bv; simp [List.getElem?_eq_getElem hl]
    rw [h1] at h0
    exact hk _ _ h0
theorem RdC.setK {w : World} {B b i : Nat} {u : Value} {t : TypeId} {cs : Array Value} {a : CA} {c : Cm} (h : RdC w B a c) (hb : Blk w b t cs) (hk : NoByte cs) : RdC (w.setCell ⟨b, i, none⟩ u) (w.setCell ⟨b, i, none⟩ u).heap.size a c :=
  ⟨h.rk.setK hb hk, h.rv.setK hb hk, h.ro.setK hb hk⟩
theorem noInt (z : Int) : ∀ x : Nat, Value.int .i64 z ≠ .int .u8 (x : Int) := fun x h => by cases h
theorem noSlice (A : Option Addr) (n c : Nat) : ∀ x : Nat, Value.slice A n c ≠ .int .u8 (x : Int) := fun x h => by cases h
theorem noByte_ent (s q k w : Int) (A A' A'' : Option Addr) (n c n' c' n'' c'' : Nat) : NoByte #[.int .i64 s, .int .i64 q, .int .i64 k, .int .i64 w, .slice A n c, .slice A' n' c', .slice A'' n'' c''] := by
  intro j x h
  match j with
  | 0 => simp at h
  | 1 => simp at h
  | 2 => simp at h
  | 3 => simp at h
  | 4 => simp at h
  | 5 => simp at h
  | 6 => simp at h
  | j + 7 => simp at h
set_option maxHeartbeats 1000000 in
/-- an entry's variable is written whole -/
theorem put7 {w : World} {b : Nat} {x0 x1 x2 x3 : Int} {A A' A'' : Option Addr} {n c n' c' n'' c'' : Nat} (hk : Blk w b 28 #[.int .i64 x0, .int .i64 x1, .int .i64 x2, .int .i64 x3, .slice A n c, .slice A' n' c', .slice A'' n'' c'']) (a : CA) (e : En) {B : Nat} (hr : RdC w B a e.c) :
    let wy := (((((((w.setCell ⟨b, 0, none⟩ (.int .i64 e.s)).setCell ⟨b, 1, none⟩ (.int .i64 e.q)).setCell ⟨b, 2, none⟩ (.int .i64 e.c.kind)).setCell ⟨b, 3, none⟩ (.int .i64 e.c.who)).setCell ⟨b, 4, none⟩ (.slice a.Ak e.c.key.length a.ck)).setCell ⟨b, 5, none⟩ (.slice a.Av e.c.val.length a.cv)).setCell ⟨b, 6, none⟩ (.slice a.Ao e.c.old.length a.co))
    Blk wy b 28 (entC a e) ∧ RdC wy wy.heap.size a e.c ∧ ∀ W, W.heap.size ≤ b → Below W.heap.size W w → Below W.heap.size W wy := by
  intro wy
  have k0 := noByte_ent x0 x1 x2 x3 A A' A'' n c n' c' n'' c''
  have b1 := hk.set_ 0 (.int .i64 e.s); have k1 := k0.set 0 (noInt e.s)
  have b2 := b1.set_ 1 (.int .i64 e.q); have k2 := k1.set 1 (noInt e.q)
  have b3 := b2.set_ 2 (.int .i64 e.c.kind); have k3 := k2.set 2 (noInt e.c.kind)
  have b4 := b3.set_ 3 (.int .i64 e.c.who); have k4 := k3.set 3 (noInt e.c.who)
  have b5 := b4.set_ 4 (.slice a.Ak e.c.key.length a.ck); have k5 := k4.set 4 (noSlice a.Ak e.c.key.length a.ck)
  have b6 := b5.set_ 5 (.slice a.Av e.c.val.length a.cv); have k6 := k5.set 5 (noSlice a.Av e.c.val.length a.cv)
  have b7 := b6.set_ 6 (.slice a.Ao e.c.old.length a.co)
  have r1 := hr.setK (i := 0) (u := .int .i64 e.s) hk k0
  have r2 := r1.setK (i := 1) (u := .int .i64 e.q) b1 k1
  have r3 := r2.setK (i := 2) (u := .int .i64 e.c.kind) b2 k2
  have r4 := r3.setK (i := 3) (u := .int .i64 e.c.who) b3 k3
  have r5 := r4.setK (i := 4) (u := .slice a.Ak e.c.key.length a.ck) b4 k4
  have r6 := r5.setK (i := 5) (u := .slice a.Av e.c.val.length a.cv) b5 k5
  have r7 := r6.setK (i := 6) (u := .slice a.Ao e.c.old.length a.co) b6 k6
  exact ⟨b7, r7, fun W h1 h2 => ((((((h2.setCell h1 _).setCell h1 _).setCell h1 _).setCell h1 _).setCell h1 _).setCell h1 _).setCell h1 _⟩
theorem entry_any (n : Int) (i : Nat) (hi : i ≤ 100) (w : World) : Calls Tryz.prog 8 #[.int .i64 n, .int .i64 (i : Int)] w fun e w' => ∃ ca en, e = .returned (entV ca en) ∧ en.c.Fits ∧ RdC w' w'.heap.size ca en.c ∧ Below w.heap.size w w' := by
  have hb0 : Below w.heap.size w (w.alloc (.cells #[.int .i64 0, .int .i64 0, .int .i64 0, .int .i64 0, .slice none 0 0, .slice none 0 0, .slice none 0 0] 28)) := (Below.refl _ _).alloc (Nat.le_refl _) _
  have HB0 := Lib.hid hb0
  have HK := Lib.hid (Blk.new w 28 #[.int .i64 0, .int .i64 0, .int .i64 0, .int .i64 0, .slice none 0 0, .slice none 0 0, .slice none 0 0])
  clear hb0
  go_enter Tryz.func8, Tryz.ntmps8
  go_wp2_with fail
  refine (cmd_any n _).mono ?_
  rintro e w1 ⟨ca, c, rfl, hf, hr, hb⟩
  have HK1 := Lib.hid (HK.out.below hb)
  have HB1 := Lib.hid (HB0.out.trans (hb.mono HB0.out.size))
  have HR := Lib.hid hr
  have HF := Lib.hid hf
  clear hb hr hf HK HB0
  obtain ⟨x0, x1, x2, x3, x4, x5, x6⟩ := seven HK1.out
  have f0 := HK1.out.frozen 0
  have f1 := HK1.out.frozen 1
  have f2 := HK1.out.frozen 2
  have f3 := HK1.out.frozen 3
  have f4 := HK1.out.frozen 4
  have f5 := HK1.out.frozen 5
  have f6 := HK1.out.frozen 6
  unfold cmdV cmdC
  go_wp2_with fail
  obtain ⟨p1, p2, p3⟩ := put7 HK1.out ca ⟨_, _, c⟩ HR.out
  refine bodyPost_ret (results_cell_row rfl _ _ _ _ _ _ _ rfl p1 Tryz.underlying28 rfl (by kernel_rfl)) rfl ?_
  exact ⟨ca, ⟨_, _, c⟩, rfl, HF.out, p2, p3 w (Nat.le_refl _) HB1.out⟩
end Go.Proofs.YthfnnieklkaefaaGreat

namespace Go.Proofs.YthfnnieklkaefaaGreat
open Go.RowKit
set_option linter.unusedVariables false
/-- asked again, it is answered as it was -/
theorem Mc.step_again (m : Mc) (e : En) : (m.step e).m.step e = m.step e := by
  obtain ⟨K, hK⟩ : ∃ K, Tb.look m.t e.s e.q = K := ⟨_, rfl⟩
  by_cases hk : K.k = 0
  · obtain ⟨r, hr⟩ : ∃ r, m.o.apply e.c = r := ⟨_, rfl⟩
    have h1 : m.step e = ⟨⟨r.s, Tb.put m.t ⟨e.s, e.q, r.e, r.v, r.n⟩⟩, r.e, r.v, r.n⟩ := by unfold Mc.step; rw [hK, if_pos hk, hr]
    rw [h1]
    have hn : Tb.named e.s e.q := by
      unfold Tb.look at hK
      split at hK
      · assumption
      · rw [← hK] at hk; simp at hk
    have h2 : Tb.look (Tb.put m.t ⟨e.s, e.q, r.e, r.v, r.n⟩) e.s e.q = ⟨r.e, r.v, r.n, 1⟩ := by
      unfold Tb.look
      rw [if_pos hn, Tb.here_put (l := ⟨e.s, e.q, r.e, r.v, r.n⟩)]
      simp
    unfold Mc.step
    simp only [h2]
    rw [if_neg (by decide)]
  · have h1 : m.step e = ⟨m, K.e, K.v, K.n⟩ := by unfold Mc.step; rw [hK, if_neg hk]
    rw [h1]
    simp only []
    exact h1
/-- what is refused turns nothing -/
theorem Mc.step_refused {m : Mc} {e : En} (h : m.Ok) (hr : 8 ≤ (m.step e).e) : (m.step e).m = m := by
  unfold Mc.step at hr ⊢
  split
  · rename_i hk
    rw [if_pos hk] at hr
    have := (Ob.apply_fits (c := e.c) h.o h.lk).e
    simp only [] at hr
    omega
  · rfl
theorem Mc.step_e {m : Mc} {e : En} (h : m.Ok) : 0 ≤ (m.step e).e ∧ (m.step e).e ≤ 10 := by
  unfold Mc.step
  split
  · have := (Ob.apply_fits (c := e.c) h.o h.lk).e
    simp only []; omega
  · show 0 ≤ (Tb.look m.t e.s e.q).e ∧ (Tb.look m.t e.s e.q).e ≤ 10
    unfold Tb.look
    split
    · split
      · rename_i l hl
        split
        · simp
        · split
          · have := h.te l (List.mem_of_find?_eq_some hl); simp only []; omega
          · simp
      · split <;> simp
    · simp
set_option maxHeartbeats 12000000 in
set_option maxRecDepth 100000 in
theorem machBack_core (hS : StepC10) (hE : EncodeC10) (hD : DecodeC10) (hM : SameC10) (hA : AwakeC10) {A : Option Addr} {n c B : Nat} {zs : List Int} (at_ : Int) (hn : n ≤ maxLen) (w : World) (h : Rd w B A n (iv zs)) :
    Calls Tryz.prog 7 #[.slice A n c, .int .i64 at_] w fun e w' => e = .returned (.bool true) ∧ Below w.heap.size w w' := by
  have hlen : zs.length = n := by have := h.1; rwa [iv_length] at this
  have HR := Lib.hid h.fit
  have hnn : n ≤ 9223372036854775807 := by unfold maxLen at hn; omega
  clear h hn
  go_enter Tryz.func7, Tryz.ntmps7
  go_wp2_with fail
  have b0 : Below w.heap.size w ((w.alloc (.cells #[.slice none 0 0, .slice none 0 0, .slice none 0 0, .slice none 0 0, .slice none 0 0] 37)).alloc (.cells #[.int .i64 0, .slice none 0 0, .int .i64 0] 40)) := ((Below.refl _ _).alloc (Nat.le_refl _) _).alloc (by simp) _
  have HB0 := Lib.hid b0
  have HK0 := Lib.hid ((Blk.new w 37 #[.slice none 0 0, .slice none 0 0, .slice none 0 0, .slice none 0 0, .slice none 0 0]).alloc (.cells #[.int .i64 0, .slice none 0 0, .int .i64 0] 40))
  have HQ0 := Lib.hid (Blk.new (w.alloc (.cells #[.slice none 0 0, .slice none 0 0, .slice none 0 0, .slice none 0 0, .slice none 0 0] 37)) 40 #[.int .i64 0, .slice none 0 0, .int .i64 0])
  rw [World.size_alloc] at HQ0
  clear b0
  go_loopw [7, 8, 9, 10, 11, 12, 13] (fun s7 s8 s9 s10 s11 s12 s13 wr => ∃ (i : Nat) (a : MA) (m : Mc) (A1 : Option Addr) (n1 c1 : Nat) (e1 N1 : Int), i ≤ n ∧ i ≤ 50 ∧ s7 = .int .i64 (i : Int) ∧ e1 ≤ 10 ∧ Hid m.Ok ∧ Hid (OwnM w wr a m) ∧ Hid (Blk wr w.heap.size 37 (machC a m)) ∧ Hid (Blk wr (w.heap.size + 1) 40 #[.int .i64 e1, .slice A1 n1 c1, .int .i64 N1]) ∧ Hid (Below w.heap.size w wr)) (fun s7 _ _ _ _ _ _ _ => n - (intOf s7).toNat)
  case atStart => exact ⟨0, ⟨⟨none, 0, none, 0, none, 0, none, 0⟩, none, 0⟩, Mc.zero, none, 0, 0, 0, 0, Nat.zero_le _, by omega, rfl, by omega, Lib.hid Mc.Ok.zero, Lib.hid (OwnM.zero _ _), HK0, HQ0, HB0⟩
  case round =>
    clear HK0 HQ0 HB0
    obtain ⟨i, a, m, A1, n1, c1, e1, N1, hi, hi5, rfl, he1, HOK, HO, HK, HQ, HB⟩ := hrel
    unfold machC at HK
    by_cases hlt : i < n
    · by_cases h50 : i < 50
      · obtain ⟨z, hz⟩ : ∃ z, zs[i]? = some z := ⟨_, List.getElem?_eq_getElem (by omega)⟩
        obtain ⟨b, o, rfl, _⟩ := (HR.out.below HB.out).int_at hlt
        have hcell := (HR.out.below HB.out).int_cell hlt hz
        have hii : (i : Int) < (n : Int) := by omega
        have hi0 : (0 : Int) ≤ (i : Int) := by omega
        have hv1 : IntKind.i64.wrap ((i : Int) + 1) = (i : Int) + 1 := IntWalk.i64_in _ (by omega)
        clear hz
        go_upto_region 7 with (first
          | (go_at_call 8; refine (entry_any z i (by omega) _).mono ?_; rintro en w1 ⟨ca, e, rfl, hf, hr, hb⟩
             unfold entV entC
             have bb := hb.alloc hb.size (.cells #[.int .i64 e.s, .int .i64 e.q, .int .i64 e.c.kind, .int .i64 e.c.who, .slice ca.Ak e.c.key.length ca.ck, .slice ca.Av e.c.val.length ca.cv, .slice ca.Ao e.c.old.length ca.co] 28)
             have HF := Lib.hid hf
             have HE := Lib.hid (Blk.new w1 28 #[.int .i64 e.s, .int .i64 e.q, .int .i64 e.c.kind, .int .i64 e.c.who, .slice ca.Ak e.c.key.length ca.ck, .slice ca.Av e.c.val.length ca.cv, .slice ca.Ao e.c.old.length ca.co])
             have HRC := Lib.hid (hr.below' ((Below.refl w1.heap.size w1).alloc (Nat.le_refl _) (.cells #[.int .i64 e.s, .int .i64 e.q, .int .i64 e.c.kind, .int .i64 e.c.who, .slice ca.Ak e.c.key.length ca.ck, .slice ca.Av e.c.val.length ca.cv, .slice ca.Ao e.c.old.length ca.co] 28)))
             have HB1 := Lib.hid (HB.out.trans (bb.mono HB.out.size))
             have HK1 := Lib.hid (HK.out.below bb)
             have HQ1 := Lib.hid (HQ.out.below bb)
             have HO1 := Lib.hid (HO.out.below bb)
             clear hf hr hb bb hcell)
          | fail)
        generalize w1.alloc (.cells #[.int .i64 e.s, .int .i64 e.q, .int .i64 e.c.kind, .int .i64 e.c.who, .slice ca.Ak e.c.key.length ca.ck, .slice ca.Av e.c.val.length ca.cv, .slice ca.Ao e.c.old.length ca.co] 28) = wa at HE HRC HB1 HK1 HQ1 HO1 ⊢
        clear HK HQ HO HB
        obtain ⟨r, hr⟩ : ∃ r, m.step e = r := ⟨_, rfl⟩
        have HST := Lib.hid hr
        have HOKN : Hid r.m.Ok := Lib.hid (by rw [← hr]; exact HOK.out.step HF.out)
        have HAG : Hid (r.m.step e = r) := Lib.hid (by rw [← hr]; exact Mc.step_again m e)
        have HRF : Hid (8 ≤ r.e → r.m = m) := Lib.hid (by rw [← hr]; exact Mc.step_refused HOK.out)
        have HEE : Hid (0 ≤ r.e ∧ r.e ≤ 10) := Lib.hid (by rw [← hr]; exact Mc.step_e HOK.out)
        have HVB : Hid (∀ x ∈ r.v, x < 256) := Lib.hid (by rw [← hr]; exact (Mc.step_v HOK.out).2)
        have C1 := Lib.hid (hS.is (W := w) (w := wa) (a := a) (ca := ca) hr HOK.out HF.out HO1.out.rd HRC.out HB1.out)
        clear hr
        obtain ⟨x0, x1, x2, x3, x4⟩ := five HK1.out
        obtain ⟨y0, y1, y2, y3, y4, y5, y6⟩ := seven HE.out
        go_upto_region 8 with (first
          | (go_at_call 10; refine C1.out.mono ?_; rintro en w2 ⟨a2, A2, c2, rfl, ho, hv, hB, hb⟩
             have HLT0 : Hid (w.heap.size + 1 < w2.heap.size) := Lib.hid (HQ1.out.below hb).lt
             unfold machV machC resV
             have bb := ((Below.refl w2.heap.size w2).alloc (Nat.le_refl _) (.cells #[.slice a2.o.A0 r.m.o.reg.length a2.o.c0, .slice a2.o.A1 r.m.o.q.length a2.o.c1, .slice a2.o.A2 r.m.o.lk.length a2.o.c2, .slice a2.o.A3 r.m.o.mp.length a2.o.c3, .slice a2.At r.m.t.length a2.ct] 37)).alloc (by simp) (.cells #[.int .i64 r.e, .slice A2 r.v.length c2, .int .i64 r.n] 40)
             have bc := hb.trans (bb.mono hb.size)
             have HE := Lib.hid (HE.out.below bc)
             have HRC := Lib.hid (HRC.out.below' bc)
             have HB2 := Lib.hid (HB1.out.trans (bc.mono HB1.out.size))
             have HK2 := Lib.hid (HK1.out.below bc)
             have HQ2 := Lib.hid (HQ1.out.below bc)
             have HO2 := Lib.hid (HO1.out.below bc)
             have HN2 := Lib.hid (ho.below bb)
             have HV2 := Lib.hid (own_below hv bb)
             have HKN := Lib.hid ((Blk.new w2 37 #[.slice a2.o.A0 r.m.o.reg.length a2.o.c0, .slice a2.o.A1 r.m.o.q.length a2.o.c1, .slice a2.o.A2 r.m.o.lk.length a2.o.c2, .slice a2.o.A3 r.m.o.mp.length a2.o.c3, .slice a2.At r.m.t.length a2.ct]).alloc (.cells #[.int .i64 r.e, .slice A2 r.v.length c2, .int .i64 r.n] 40))
             have HKR := Lib.hid (Blk.new (w2.alloc (.cells #[.slice a2.o.A0 r.m.o.reg.length a2.o.c0, .slice a2.o.A1 r.m.o.q.length a2.o.c1, .slice a2.o.A2 r.m.o.lk.length a2.o.c2, .slice a2.o.A3 r.m.o.mp.length a2.o.c3, .slice a2.At r.m.t.length a2.ct] 37)) 40 #[.int .i64 r.e, .slice A2 r.v.length c2, .int .i64 r.n])
             rw [World.size_alloc] at HKR
             clear ho hv hB hb bb bc C1)
          | fail)
        generalize (w2.alloc (.cells #[.slice a2.o.A0 r.m.o.reg.length a2.o.c0, .slice a2.o.A1 r.m.o.q.length a2.o.c1, .slice a2.o.A2 r.m.o.lk.length a2.o.c2, .slice a2.o.A3 r.m.o.mp.length a2.o.c3, .slice a2.At r.m.t.length a2.ct] 37)).alloc (.cells #[.int .i64 r.e, .slice A2 r.v.length c2, .int .i64 r.n] 40) = wb at HE HRC HB2 HK2 HQ2 HO2 HN2 HV2 HKN HKR ⊢
        clear HK1 HQ1 HO1 HB1 x0 x1 x2 x3 x4 y0 y1 y2 y3 y4 y5 y6
        have C2 := Lib.hid (hS.is (W := w) (w := wb) (a := a2) (ca := ca) HAG.out HOKN.out HF.out HN2.out.rd HRC.out HB2.out)
        obtain ⟨x0, x1, x2, x3, x4⟩ := five HKN.out
        obtain ⟨y0, y1, y2, y3, y4, y5, y6⟩ := seven HE.out
        go_upto_region 9 with (first
          | (go_at_call 10; refine C2.out.mono ?_; rintro en w3 ⟨a3, A3, c3, rfl, ho, hv, hB, hb⟩
             unfold machV machC resV
             have bb := ((Below.refl w3.heap.size w3).alloc (Nat.le_refl _) (.cells #[.slice a3.o.A0 r.m.o.reg.length a3.o.c0, .slice a3.o.A1 r.m.o.q.length a3.o.c1, .slice a3.o.A2 r.m.o.lk.length a3.o.c2, .slice a3.o.A3 r.m.o.mp.length a3.o.c3, .slice a3.At r.m.t.length a3.ct] 37)).alloc (by simp) (.cells #[.int .i64 r.e, .slice A3 r.v.length c3, .int .i64 r.n] 40)
             have bc := hb.trans (bb.mono hb.size)
             have HB3 := Lib.hid (HB2.out.trans (bc.mono HB2.out.size))
             have HK3 := Lib.hid (HK2.out.below bc)
             have HQ3 := Lib.hid (HQ2.out.below bc)
             have HO3 := Lib.hid (HO2.out.below bc)
             have HN3 := Lib.hid (HN2.out.below bc)
             have HV3 := Lib.hid (own_below HV2.out bc)
             have HKN3 := Lib.hid (HKN.out.below bc)
             have HKR3 := Lib.hid (HKR.out.below bc)
             have HG3 := Lib.hid (ho.below bb)
             have HW3 := Lib.hid (own_below hv bb)
             have HKG := Lib.hid ((Blk.new w3 37 #[.slice a3.o.A0 r.m.o.reg.length a3.o.c0, .slice a3.o.A1 r.m.o.q.length a3.o.c1, .slice a3.o.A2 r.m.o.lk.length a3.o.c2, .slice a3.o.A3 r.m.o.mp.length a3.o.c3, .slice a3.At r.m.t.length a3.ct]).alloc (.cells #[.int .i64 r.e, .slice A3 r.v.length c3, .int .i64 r.n] 40))
             have HKS := Lib.hid (Blk.new (w3.alloc (.cells #[.slice a3.o.A0 r.m.o.reg.length a3.o.c0, .slice a3.o.A1 r.m.o.q.length a3.o.c1, .slice a3.o.A2 r.m.o.lk.length a3.o.c2, .slice a3.o.A3 r.m.o.mp.length a3.o.c3, .slice a3.At r.m.t.length a3.ct] 37)) 40 #[.int .i64 r.e, .slice A3 r.v.length c3, .int .i64 r.n])
             rw [World.size_alloc] at HKS
             clear ho hv hB hb bb bc C2)
          | fail)
        generalize (w3.alloc (.cells #[.slice a3.o.A0 r.m.o.reg.length a3.o.c0, .slice a3.o.A1 r.m.o.q.length a3.o.c1, .slice a3.o.A2 r.m.o.lk.length a3.o.c2, .slice a3.o.A3 r.m.o.mp.length a3.o.c3, .slice a3.At r.m.t.length a3.ct] 37)).alloc (.cells #[.int .i64 r.e, .slice A3 r.v.length c3, .int .i64 r.n] 40) = wc at HB3 HK3 HQ3 HO3 HN3 HV3 HKN3 HKR3 HG3 HW3 HKG HKS ⊢
        clear HE HRC HB2 HK2 HQ2 HO2 HN2 HV2 HKN HKR x0 x1 x2 x3 x4 y0 y1 y2 y3 y4 y5 y6 HAG HF
        have FR : Hid (∀ wx, Below wc.heap.size wc wx → (Blk wx w2.heap.size 37 #[.slice a2.o.A0 r.m.o.reg.length a2.o.c0, .slice a2.o.A1 r.m.o.q.length a2.o.c1, .slice a2.o.A2 r.m.o.lk.length a2.o.c2, .slice a2.o.A3 r.m.o.mp.length a2.o.c3, .slice a2.At r.m.t.length a2.ct] ∧ Blk wx (w2.heap.size + 1) 40 #[.int .i64 r.e, .slice A2 r.v.length c2, .int .i64 r.n]) ∧ (Blk wx w3.heap.size 37 #[.slice a3.o.A0 r.m.o.reg.length a3.o.c0, .slice a3.o.A1 r.m.o.q.length a3.o.c1, .slice a3.o.A2 r.m.o.lk.length a3.o.c2, .slice a3.o.A3 r.m.o.mp.length a3.o.c3, .slice a3.At r.m.t.length a3.ct] ∧ Blk wx (w3.heap.size + 1) 40 #[.int .i64 r.e, .slice A3 r.v.length c3, .int .i64 r.n]) ∧ Blk wx w.heap.size 37 #[.slice a.o.A0 m.o.reg.length a.o.c0, .slice a.o.A1 m.o.q.length a.o.c1, .slice a.o.A2 m.o.lk.length a.o.c2, .slice a.o.A3 m.o.mp.length a.o.c3, .slice a.At m.t.length a.ct] ∧ Blk wx (w.heap.size + 1) 40 #[.int .i64 e1, .slice A1 n1 c1, .int .i64 N1]) :=
          Lib.hid (fun wx hb => ⟨⟨HKN3.out.below hb, HKR3.out.below hb⟩, ⟨HKG.out.below hb, HKS.out.below hb⟩, HK3.out.below hb, HQ3.out.below hb⟩)
        have HLT : Hid (w.heap.size + 1 < w2.heap.size) := HLT0
        by_cases h8 : r.e = 8
        · have r8 : (r.e == 8) = true := by simpa using h8
          have hmr := HRF.out (by omega)
          have CA1 := Lib.hid (hM.is wc (b := true) (decide_eq_true rfl) HOKN.out HOKN.out HG3.out.rd HN3.out.rd)
          have CA2 : Hid (∀ wy, Below wc.heap.size wc wy → Calls Tryz.prog 11 #[machV a m, machV a2 r.m] wy fun e w' => e = .returned (.bool true) ∧ Below wy.heap.size wy w') := Lib.hid (fun wy hb => hM.is wy (b := true) (decide_eq_true hmr.symm) HOK.out HOKN.out (HO3.out.rd.below hb) (HN3.out.rd.below hb))
          clear hmr h8
          obtain ⟨⟨q1, q2⟩, ⟨q3, q4⟩, q5, q6⟩ := FR.out wc (Below.refl _ _)
          obtain ⟨x0, x1, x2, x3, x4⟩ := five q1
          obtain ⟨y0, y1, y2, _, _, _⟩ := three q2
          obtain ⟨z0, z1, z2, z3, z4⟩ := five q3
          obtain ⟨u0, u1, u2, _, _, _⟩ := three q4
          obtain ⟨v0, v1, v2, v3, v4⟩ := five q5
          clear q1 q2 q3 q4 q5 q6
          go_upto_region 12 with (first
            | (go_at_call 11; refine CA1.out.mono ?_; rintro en w4 ⟨rfl, hb4⟩
               have HB4 := Lib.hid hb4
               clear x0 x1 x2 x3 x4 y0 y1 y2 z0 z1 z2 z3 z4 u0 u1 u2 v0 v1 v2 v3 v4
               obtain ⟨⟨q1, q2⟩, ⟨q3, q4⟩, q5, q6⟩ := FR.out w4 hb4
               obtain ⟨x0, x1, x2, x3, x4⟩ := five q1
               obtain ⟨y0, y1, y2, _, _, _⟩ := three q2
               obtain ⟨z0, z1, z2, z3, z4⟩ := five q3
               obtain ⟨u0, u1, u2, _, _, _⟩ := three q4
               obtain ⟨v0, v1, v2, v3, v4⟩ := five q5
               clear q1 q2 q3 q4 q5 q6
               have CA3 := Lib.hid (CA2.out w4 HB4.out)
               clear hb4 CA1 CA2)
            | (go_at_call 11; refine CA3.out.mono ?_; rintro en wx ⟨rfl, hb5⟩
               have HBX := Lib.hid (HB4.out.trans (hb5.mono HB4.out.size))
               clear x0 x1 x2 x3 x4 y0 y1 y2 z0 z1 z2 z3 z4 u0 u1 u2 v0 v1 v2 v3 v4
               obtain ⟨⟨q1, q2⟩, ⟨q3, q4⟩, q5, q6⟩ := FR.out wx HBX.out
               obtain ⟨x0, x1, x2, x3, x4⟩ := five q1
               obtain ⟨y0, y1, y2, _, _, _⟩ := three q2
               obtain ⟨z0, z1, z2, z3, z4⟩ := five q3
               obtain ⟨u0, u1, u2, _, _, _⟩ := three q4
               obtain ⟨v0, v1, v2, v3, v4⟩ := five q5
               clear q1 q2 q3 q4 q5 q6
               clear hb5 CA3)
            | fail)
          clear x0 x1 x2 x3 x4 y0 y1 y2 z0 z1 z2 z3 z4 u0 u1 u2 v0 v1 v2 v3 v4
          have hbd := HBX.out.drew
          obtain ⟨⟨q1, q2⟩, _, q5, q6⟩ := FR.out wx.drew hbd
          have HS := Lib.hid (And.intro q1 q2)
          have HP5 := Lib.hid q5
          have HP6 := Lib.hid q6
          have HNX := Lib.hid (HN3.out.below hbd)
          have HVX := Lib.hid (own_below HV3.out hbd)
          have HBW := Lib.hid (HB3.out.trans (hbd.mono HB3.out.size))
          have hlt2 := HLT.out
          refine wp_region_held_drew (S := fun w' => Blk w' w2.heap.size 37 #[.slice a2.o.A0 r.m.o.reg.length a2.o.c0, .slice a2.o.A1 r.m.o.q.length a2.o.c1, .slice a2.o.A2 r.m.o.lk.length a2.o.c2, .slice a2.o.A3 r.m.o.mp.length a2.o.c3, .slice a2.At r.m.t.length a2.ct] ∧ Blk w' (w2.heap.size + 1) 40 #[.int .i64 r.e, .slice A2 r.v.length c2, .int .i64 r.n]) (by kernel_rfl) HS.out (fun _ => ?_)
          clear q1 q2 q5 q6 hbd HBX
          generalize wx.drew = wd at HS HP5 HP6 HNX HVX HBW ⊢
          refine wpAnyH_take (i := 0) (v := .agg #[.slice a2.o.A0 r.m.o.reg.length a2.o.c0, .slice a2.o.A1 r.m.o.q.length a2.o.c1, .slice a2.o.A2 r.m.o.lk.length a2.o.c2, .slice a2.o.A3 r.m.o.mp.length a2.o.c3, .slice a2.At r.m.t.length a2.ct]) rfl (by kernel_rfl) (by kernel_rfl) (by kernel_rfl) (fun _ _ _ h => h) (Or.inl ⟨by kernel_rfl, fun w h => by obtain ⟨q0, q1, q2, q3, q4⟩ := five h.1; go_simp⟩) HS.out ?_
          refine wpAnyH_take (i := 1) (v := .agg #[.int .i64 r.e, .slice A2 r.v.length c2, .int .i64 r.n]) rfl (by kernel_rfl) (by kernel_rfl) (by kernel_rfl) (fun _ _ _ h => h) (Or.inl ⟨by kernel_rfl, fun w h => by obtain ⟨q0, q1, q2, _, _, _⟩ := three h.2; go_simp⟩) HS.out ?_
          obtain ⟨k1, k2, k3, k4, k5⟩ := put5 HP5.out (.slice a2.o.A0 r.m.o.reg.length a2.o.c0) (.slice a2.o.A1 r.m.o.q.length a2.o.c1) (.slice a2.o.A2 r.m.o.lk.length a2.o.c2) (.slice a2.o.A3 r.m.o.mp.length a2.o.c3) (.slice a2.At r.m.t.length a2.ct)
          have l0 := k5 (w.heap.size + 1) _ _ (by omega) HP6.out
          obtain ⟨l1, l2, l3⟩ := put3 l0 (.int .i64 r.e) (.slice A2 r.v.length c2) (.int .i64 r.n)
          have HS9 := Lib.hid (And.intro (k5 _ _ _ (by omega) HS.out.1) (k5 _ _ _ (by omega) HS.out.2))
          have HS10 := Lib.hid (And.intro (((HS9.out.1.set_other (i := 0) (u := .int .i64 r.e) (b := w.heap.size + 1) (by omega)).set_other (i := 1) (u := .slice A2 r.v.length c2) (b := w.heap.size + 1) (by omega)).set_other (i := 2) (u := .int .i64 r.n) (b := w.heap.size + 1) (by omega)) (((HS9.out.2.set_other (i := 0) (u := .int .i64 r.e) (b := w.heap.size + 1) (by omega)).set_other (i := 1) (u := .slice A2 r.v.length c2) (b := w.heap.size + 1) (by omega)).set_other (i := 2) (u := .int .i64 r.n) (b := w.heap.size + 1) (by omega)))
          have m1 := k3 w a2 r.m HNX.out (by decide) (by decide) (by decide) (by decide) (by decide)
          have m2 := ((m1.set_t l0 (i := 0) (u := .int .i64 r.e) (by decide) (by decide) (by decide) (by decide) (by decide)).set_t (l0.set_ _ _) (i := 1) (u := .slice A2 r.v.length c2) (by decide) (by decide) (by decide) (by decide) (by decide)).set_t ((l0.set_ _ _).set_ _ _) (i := 2) (u := .int .i64 r.n) (by decide) (by decide) (by decide) (by decide) (by decide)
          have k1' := ((k1.set_other (i := 0) (u := .int .i64 r.e) (b := w.heap.size + 1) (by omega)).set_other (i := 1) (u := .slice A2 r.v.length c2) (b := w.heap.size + 1) (by omega)).set_other (i := 2) (u := .int .i64 r.n) (b := w.heap.size + 1) (by omega)
          have hb9 := l2 w (by omega) (k2 w (Nat.le_refl _) HBW.out)
          have HEND := Lib.hid (And.intro k1' (And.intro l1 (And.intro m2 hb9)))
          obtain ⟨x0, x1, x2, x3, x4⟩ := five HP5.out
          obtain ⟨f0, f1, f2, f3, f4⟩ := five_frozen HP5.out
          obtain ⟨p0, p1, p2, d0, d1, d2⟩ := three l0
          clear k1 k2 k3 k4 k5 l0 l1 l2 l3 m1 m2 k1' hb9
          refine wpAnyH_ready (rs := [2]) (by kernel_rfl) (by simp) ?_
          refine AllReadyH.cons rfl (fun K hK => ?_) AllReadyH.nil
          go_simp
          refine hK.out _ _ HS9.out (fun _ => ?_)
          clear hK K
          clear x0 x1 x2 x3 x4 f0 f1 f2 f3 f4
          generalize (((((wd.setCell ⟨w.heap.size, 0, none⟩ (.slice a2.o.A0 r.m.o.reg.length a2.o.c0)).setCell ⟨w.heap.size, 1, none⟩ (.slice a2.o.A1 r.m.o.q.length a2.o.c1)).setCell ⟨w.heap.size, 2, none⟩ (.slice a2.o.A2 r.m.o.lk.length a2.o.c2)).setCell ⟨w.heap.size, 3, none⟩ (.slice a2.o.A3 r.m.o.mp.length a2.o.c3)).setCell ⟨w.heap.size, 4, none⟩ (.slice a2.At r.m.t.length a2.ct)) = w9 at HEND HS9 HS10 p0 p1 p2 d0 d1 d2 ⊢
          refine wpAnyH_ready (rs := [3]) (by kernel_rfl) (by simp) ?_
          refine AllReadyH.cons rfl (fun K hK => ?_) AllReadyH.nil
          go_simp
          refine hK.out _ _ HS10.out (fun _ => ?_)
          clear hK K
          refine wpAnyH_done (by kernel_rfl) ?_ _
          go_wp2_with fail
          go_roundw
          case rel => exact ⟨i + 1, a2, r.m, A2, r.v.length, c2, r.e, r.n, by omega, by omega, by go_num, HEE.out.2, HOKN, Lib.hid HEND.out.2.2.1, Lib.hid HEND.out.1, Lib.hid HEND.out.2.1, Lib.hid HEND.out.2.2.2⟩
          case measure => simp only [intOf]; omega
        · by_cases h9 : r.e = 9
          · have r8 : (r.e == 8) = false := by simpa using h8
            have r9 : (r.e == 9) = true := by simpa using h9
            have hmr := HRF.out (by omega)
            have CA1 := Lib.hid (hM.is wc (b := true) (decide_eq_true rfl) HOKN.out HOKN.out HG3.out.rd HN3.out.rd)
            have CA2 : Hid (∀ wy, Below wc.heap.size wc wy → Calls Tryz.prog 11 #[machV a m, machV a2 r.m] wy fun e w' => e = .returned (.bool true) ∧ Below wy.heap.size wy w') := Lib.hid (fun wy hb => hM.is wy (b := true) (decide_eq_true hmr.symm) HOK.out HOKN.out (HO3.out.rd.below hb) (HN3.out.rd.below hb))
            clear hmr h9
            obtain ⟨⟨q1, q2⟩, ⟨q3, q4⟩, q5, q6⟩ := FR.out wc (Below.refl _ _)
            obtain ⟨x0, x1, x2, x3, x4⟩ := five q1
            obtain ⟨y0, y1, y2, _, _, _⟩ := three q2
            obtain ⟨z0, z1, z2, z3, z4⟩ := five q3
            obtain ⟨u0, u1, u2, _, _, _⟩ := three q4
            obtain ⟨v0, v1, v2, v3, v4⟩ := five q5
            clear q1 q2 q3 q4 q5 q6
            go_upto_region 12 with (first
              | (go_at_call 11; refine CA1.out.mono ?_; rintro en w4 ⟨rfl, hb4⟩
                 have HB4 := Lib.hid hb4
                 clear x0 x1 x2 x3 x4 y0 y1 y2 z0 z1 z2 z3 z4 u0 u1 u2 v0 v1 v2 v3 v4
                 obtain ⟨⟨q1, q2⟩, ⟨q3, q4⟩, q5, q6⟩ := FR.out w4 hb4
                 obtain ⟨x0, x1, x2, x3, x4⟩ := five q1
                 obtain ⟨y0, y1, y2, _, _, _⟩ := three q2
                 obtain ⟨z0, z1, z2, z3, z4⟩ := five q3
                 obtain ⟨u0, u1, u2, _, _, _⟩ := three q4
                 obtain ⟨v0, v1, v2, v3, v4⟩ := five q5
                 clear q1 q2 q3 q4 q5 q6
                 have CA3 := Lib.hid (CA2.out w4 HB4.out)
                 clear hb4 CA1 CA2)
              | (go_at_call 11; refine CA3.out.mono ?_; rintro en wx ⟨rfl, hb5⟩
                 have HBX := Lib.hid (HB4.out.trans (hb5.mono HB4.out.size))
                 clear x0 x1 x2 x3 x4 y0 y1 y2 z0 z1 z2 z3 z4 u0 u1 u2 v0 v1 v2 v3 v4
                 obtain ⟨⟨q1, q2⟩, ⟨q3, q4⟩, q5, q6⟩ := FR.out wx HBX.out
                 obtain ⟨x0, x1, x2, x3, x4⟩ := five q1
                 obtain ⟨y0, y1, y2, _, _, _⟩ := three q2
                 obtain ⟨z0, z1, z2, z3, z4⟩ := five q3
                 obtain ⟨u0, u1, u2, _, _, _⟩ := three q4
                 obtain ⟨v0, v1, v2, v3, v4⟩ := five q5
                 clear q1 q2 q3 q4 q5 q6
                 clear hb5 CA3)
              | fail)
            clear x0 x1 x2 x3 x4 y0 y1 y2 z0 z1 z2 z3 z4 u0 u1 u2 v0 v1 v2 v3 v4
            have hbd := HBX.out.drew
            obtain ⟨⟨q1, q2⟩, _, q5, q6⟩ := FR.out wx.drew hbd
            have HS := Lib.hid (And.intro q1 q2)
            have HP5 := Lib.hid q5
            have HP6 := Lib.hid q6
            have HNX := Lib.hid (HN3.out.below hbd)
            have HVX := Lib.hid (own_below HV3.out hbd)
            have HBW := Lib.hid (HB3.out.trans (hbd.mono HB3.out.size))
            have hlt2 := HLT.out
            refine wp_region_held_drew (S := fun w' => Blk w' w2.heap.size 37 #[.slice a2.o.A0 r.m.o.reg.length a2.o.c0, .slice a2.o.A1 r.m.o.q.length a2.o.c1, .slice a2.o.A2 r.m.o.lk.length a2.o.c2, .slice a2.o.A3 r.m.o.mp.length a2.o.c3, .slice a2.At r.m.t.length a2.ct] ∧ Blk w' (w2.heap.size + 1) 40 #[.int .i64 r.e, .slice A2 r.v.length c2, .int .i64 r.n]) (by kernel_rfl) HS.out (fun _ => ?_)
            clear q1 q2 q5 q6 hbd HBX
            generalize wx.drew = wd at HS HP5 HP6 HNX HVX HBW ⊢
            refine wpAnyH_take (i := 0) (v := .agg #[.slice a2.o.A0 r.m.o.reg.length a2.o.c0, .slice a2.o.A1 r.m.o.q.length a2.o.c1, .slice a2.o.A2 r.m.o.lk.length a2.o.c2, .slice a2.o.A3 r.m.o.mp.length a2.o.c3, .slice a2.At r.m.t.length a2.ct]) rfl (by kernel_rfl) (by kernel_rfl) (by kernel_rfl) (fun _ _ _ h => h) (Or.inl ⟨by kernel_rfl, fun w h => by obtain ⟨q0, q1, q2, q3, q4⟩ := five h.1; go_simp⟩) HS.out ?_
            refine wpAnyH_take (i := 1) (v := .agg #[.int .i64 r.e, .slice A2 r.v.length c2, .int .i64 r.n]) rfl (by kernel_rfl) (by kernel_rfl) (by kernel_rfl) (fun _ _ _ h => h) (Or.inl ⟨by kernel_rfl, fun w h => by obtain ⟨q0, q1, q2, _, _, _⟩ := three h.2; go_simp⟩) HS.out ?_
            obtain ⟨k1, k2, k3, k4, k5⟩ := put5 HP5.out (.slice a2.o.A0 r.m.o.reg.length a2.o.c0) (.slice a2.o.A1 r.m.o.q.length a2.o.c1) (.slice a2.o.A2 r.m.o.lk.length a2.o.c2) (.slice a2.o.A3 r.m.o.mp.length a2.o.c3) (.slice a2.At r.m.t.length a2.ct)
            have l0 := k5 (w.heap.size + 1) _ _ (by omega) HP6.out
            obtain ⟨l1, l2, l3⟩ := put3 l0 (.int .i64 r.e) (.slice A2 r.v.length c2) (.int .i64 r.n)
            have HS9 := Lib.hid (And.intro (k5 _ _ _ (by omega) HS.out.1) (k5 _ _ _ (by omega) HS.out.2))
            have HS10 := Lib.hid (And.intro (((HS9.out.1.set_other (i := 0) (u := .int .i64 r.e) (b := w.heap.size + 1) (by omega)).set_other (i := 1) (u := .slice A2 r.v.length c2) (b := w.heap.size + 1) (by omega)).set_other (i := 2) (u := .int .i64 r.n) (b := w.heap.size + 1) (by omega)) (((HS9.out.2.set_other (i := 0) (u := .int .i64 r.e) (b := w.heap.size + 1) (by omega)).set_other (i := 1) (u := .slice A2 r.v.length c2) (b := w.heap.size + 1) (by omega)).set_other (i := 2) (u := .int .i64 r.n) (b := w.heap.size + 1) (by omega)))
            have m1 := k3 w a2 r.m HNX.out (by decide) (by decide) (by decide) (by decide) (by decide)
            have m2 := ((m1.set_t l0 (i := 0) (u := .int .i64 r.e) (by decide) (by decide) (by decide) (by decide) (by decide)).set_t (l0.set_ _ _) (i := 1) (u := .slice A2 r.v.length c2) (by decide) (by decide) (by decide) (by decide) (by decide)).set_t ((l0.set_ _ _).set_ _ _) (i := 2) (u := .int .i64 r.n) (by decide) (by decide) (by decide) (by decide) (by decide)
            have k1' := ((k1.set_other (i := 0) (u := .int .i64 r.e) (b := w.heap.size + 1) (by omega)).set_other (i := 1) (u := .slice A2 r.v.length c2) (b := w.heap.size + 1) (by omega)).set_other (i := 2) (u := .int .i64 r.n) (b := w.heap.size + 1) (by omega)
            have hb9 := l2 w (by omega) (k2 w (Nat.le_refl _) HBW.out)
            have HEND := Lib.hid (And.intro k1' (And.intro l1 (And.intro m2 hb9)))
            obtain ⟨x0, x1, x2, x3, x4⟩ := five HP5.out
            obtain ⟨f0, f1, f2, f3, f4⟩ := five_frozen HP5.out
            obtain ⟨p0, p1, p2, d0, d1, d2⟩ := three l0
            clear k1 k2 k3 k4 k5 l0 l1 l2 l3 m1 m2 k1' hb9
            refine wpAnyH_ready (rs := [2]) (by kernel_rfl) (by simp) ?_
            refine AllReadyH.cons rfl (fun K hK => ?_) AllReadyH.nil
            go_simp
            refine hK.out _ _ HS9.out (fun _ => ?_)
            clear hK K
            clear x0 x1 x2 x3 x4 f0 f1 f2 f3 f4
            generalize (((((wd.setCell ⟨w.heap.size, 0, none⟩ (.slice a2.o.A0 r.m.o.reg.length a2.o.c0)).setCell ⟨w.heap.size, 1, none⟩ (.slice a2.o.A1 r.m.o.q.length a2.o.c1)).setCell ⟨w.heap.size, 2, none⟩ (.slice a2.o.A2 r.m.o.lk.length a2.o.c2)).setCell ⟨w.heap.size, 3, none⟩ (.slice a2.o.A3 r.m.o.mp.length a2.o.c3)).setCell ⟨w.heap.size, 4, none⟩ (.slice a2.At r.m.t.length a2.ct)) = w9 at HEND HS9 HS10 p0 p1 p2 d0 d1 d2 ⊢
            refine wpAnyH_ready (rs := [3]) (by kernel_rfl) (by simp) ?_
            refine AllReadyH.cons rfl (fun K hK => ?_) AllReadyH.nil
            go_simp
            refine hK.out _ _ HS10.out (fun _ => ?_)
            clear hK K
            refine wpAnyH_done (by kernel_rfl) ?_ _
            go_wp2_with fail
            go_roundw
            case rel => exact ⟨i + 1, a2, r.m, A2, r.v.length, c2, r.e, r.n, by omega, by omega, by go_num, HEE.out.2, HOKN, Lib.hid HEND.out.2.2.1, Lib.hid HEND.out.1, Lib.hid HEND.out.2.1, Lib.hid HEND.out.2.2.2⟩
            case measure => simp only [intOf]; omega
          · by_cases h10 : r.e = 10
            · have r8 : (r.e == 8) = false := by simpa using h8
              have r9 : (r.e == 9) = false := by simpa using h9
              have r10 : (r.e == 10) = true := by simpa using h10
              have hmr := HRF.out (by omega)
              have CA1 := Lib.hid (hM.is wc (b := true) (decide_eq_true rfl) HOKN.out HOKN.out HG3.out.rd HN3.out.rd)
              have CA2 : Hid (∀ wy, Below wc.heap.size wc wy → Calls Tryz.prog 11 #[machV a m, machV a2 r.m] wy fun e w' => e = .returned (.bool true) ∧ Below wy.heap.size wy w') := Lib.hid (fun wy hb => hM.is wy (b := true) (decide_eq_true hmr.symm) HOK.out HOKN.out (HO3.out.rd.below hb) (HN3.out.rd.below hb))
              clear hmr h10
              obtain ⟨⟨q1, q2⟩, ⟨q3, q4⟩, q5, q6⟩ := FR.out wc (Below.refl _ _)
              obtain ⟨x0, x1, x2, x3, x4⟩ := five q1
              obtain ⟨y0, y1, y2, _, _, _⟩ := three q2
              obtain ⟨z0, z1, z2, z3, z4⟩ := five q3
              obtain ⟨u0, u1, u2, _, _, _⟩ := three q4
              obtain ⟨v0, v1, v2, v3, v4⟩ := five q5
              clear q1 q2 q3 q4 q5 q6
              go_upto_region 12 with (first
                | (go_at_call 11; refine CA1.out.mono ?_; rintro en w4 ⟨rfl, hb4⟩
                   have HB4 := Lib.hid hb4
                   clear x0 x1 x2 x3 x4 y0 y1 y2 z0 z1 z2 z3 z4 u0 u1 u2 v0 v1 v2 v3 v4
                   obtain ⟨⟨q1, q2⟩, ⟨q3, q4⟩, q5, q6⟩ := FR.out w4 hb4
                   obtain ⟨x0, x1, x2, x3, x4⟩ := five q1
                   obtain ⟨y0, y1, y2, _, _, _⟩ := three q2
                   obtain ⟨z0, z1, z2, z3, z4⟩ := five q3
                   obtain ⟨u0, u1, u2, _, _, _⟩ := three q4
                   obtain ⟨v0, v1, v2, v3, v4⟩ := five q5
                   clear q1 q2 q3 q4 q5 q6
                   have CA3 := Lib.hid (CA2.out w4 HB4.out)
                   clear hb4 CA1 CA2)
                | (go_at_call 11; refine CA3.out.mono ?_; rintro en wx ⟨rfl, hb5⟩
                   have HBX := Lib.hid (HB4.out.trans (hb5.mono HB4.out.size))
                   clear x0 x1 x2 x3 x4 y0 y1 y2 z0 z1 z2 z3 z4 u0 u1 u2 v0 v1 v2 v3 v4
                   obtain ⟨⟨q1, q2⟩, ⟨q3, q4⟩, q5, q6⟩ := FR.out wx HBX.out
                   obtain ⟨x0, x1, x2, x3, x4⟩ := five q1
                   obtain ⟨y0, y1, y2, _, _, _⟩ := three q2
                   obtain ⟨z0, z1, z2, z3, z4⟩ := five q3
                   obtain ⟨u0, u1, u2, _, _, _⟩ := three q4
                   obtain ⟨v0, v1, v2, v3, v4⟩ := five q5
                   clear q1 q2 q3 q4 q5 q6
                   clear hb5 CA3)
                | fail)
              clear x0 x1 x2 x3 x4 y0 y1 y2 z0 z1 z2 z3 z4 u0 u1 u2 v0 v1 v2 v3 v4
              have hbd := HBX.out.drew
              obtain ⟨⟨q1, q2⟩, _, q5, q6⟩ := FR.out wx.drew hbd
              have HS := Lib.hid (And.intro q1 q2)
              have HP5 := Lib.hid q5
              have HP6 := Lib.hid q6
              have HNX := Lib.hid (HN3.out.below hbd)
              have HVX := Lib.hid (own_below HV3.out hbd)
              have HBW := Lib.hid (HB3.out.trans (hbd.mono HB3.out.size))
              have hlt2 := HLT.out
              refine wp_region_held_drew (S := fun w' => Blk w' w2.heap.size 37 #[.slice a2.o.A0 r.m.o.reg.length a2.o.c0, .slice a2.o.A1 r.m.o.q.length a2.o.c1, .slice a2.o.A2 r.m.o.lk.length a2.o.c2, .slice a2.o.A3 r.m.o.mp.length a2.o.c3, .slice a2.At r.m.t.length a2.ct] ∧ Blk w' (w2.heap.size + 1) 40 #[.int .i64 r.e, .slice A2 r.v.length c2, .int .i64 r.n]) (by kernel_rfl) HS.out (fun _ => ?_)
              clear q1 q2 q5 q6 hbd HBX
              generalize wx.drew = wd at HS HP5 HP6 HNX HVX HBW ⊢
              refine wpAnyH_take (i := 0) (v := .agg #[.slice a2.o.A0 r.m.o.reg.length a2.o.c0, .slice a2.o.A1 r.m.o.q.length a2.o.c1, .slice a2.o.A2 r.m.o.lk.length a2.o.c2, .slice a2.o.A3 r.m.o.mp.length a2.o.c3, .slice a2.At r.m.t.length a2.ct]) rfl (by kernel_rfl) (by kernel_rfl) (by kernel_rfl) (fun _ _ _ h => h) (Or.inl ⟨by kernel_rfl, fun w h => by obtain ⟨q0, q1, q2, q3, q4⟩ := five h.1; go_simp⟩) HS.out ?_
              refine wpAnyH_take (i := 1) (v := .agg #[.int .i64 r.e, .slice A2 r.v.length c2, .int .i64 r.n]) rfl (by kernel_rfl) (by kernel_rfl) (by kernel_rfl) (fun _ _ _ h => h) (Or.inl ⟨by kernel_rfl, fun w h => by obtain ⟨q0, q1, q2, _, _, _⟩ := three h.2; go_simp⟩) HS.out ?_
              obtain ⟨k1, k2, k3, k4, k5⟩ := put5 HP5.out (.slice a2.o.A0 r.m.o.reg.length a2.o.c0) (.slice a2.o.A1 r.m.o.q.length a2.o.c1) (.slice a2.o.A2 r.m.o.lk.length a2.o.c2) (.slice a2.o.A3 r.m.o.mp.length a2.o.c3) (.slice a2.At r.m.t.length a2.ct)
              have l0 := k5 (w.heap.size + 1) _ _ (by omega) HP6.out
              obtain ⟨l1, l2, l3⟩ := put3 l0 (.int .i64 r.e) (.slice A2 r.v.length c2) (.int .i64 r.n)
              have HS9 := Lib.hid (And.intro (k5 _ _ _ (by omega) HS.out.1) (k5 _ _ _ (by omega) HS.out.2))
              have HS10 := Lib.hid (And.intro (((HS9.out.1.set_other (i := 0) (u := .int .i64 r.e) (b := w.heap.size + 1) (by omega)).set_other (i := 1) (u := .slice A2 r.v.length c2) (b := w.heap.size + 1) (by omega)).set_other (i := 2) (u := .int .i64 r.n) (b := w.heap.size + 1) (by omega)) (((HS9.out.2.set_other (i := 0) (u := .int .i64 r.e) (b := w.heap.size + 1) (by omega)).set_other (i := 1) (u := .slice A2 r.v.length c2) (b := w.heap.size + 1) (by omega)).set_other (i := 2) (u := .int .i64 r.n) (b := w.heap.size + 1) (by omega)))
              have m1 := k3 w a2 r.m HNX.out (by decide) (by decide) (by decide) (by decide) (by decide)
              have m2 := ((m1.set_t l0 (i := 0) (u := .int .i64 r.e) (by decide) (by decide) (by decide) (by decide) (by decide)).set_t (l0.set_ _ _) (i := 1) (u := .slice A2 r.v.length c2) (by decide) (by decide) (by decide) (by decide) (by decide)).set_t ((l0.set_ _ _).set_ _ _) (i := 2) (u := .int .i64 r.n) (by decide) (by decide) (by decide) (by decide) (by decide)
              have k1' := ((k1.set_other (i := 0) (u := .int .i64 r.e) (b := w.heap.size + 1) (by omega)).set_other (i := 1) (u := .slice A2 r.v.length c2) (b := w.heap.size + 1) (by omega)).set_other (i := 2) (u := .int .i64 r.n) (b := w.heap.size + 1) (by omega)
              have hb9 := l2 w (by omega) (k2 w (Nat.le_refl _) HBW.out)
              have HEND := Lib.hid (And.intro k1' (And.intro l1 (And.intro m2 hb9)))
              obtain ⟨x0, x1, x2, x3, x4⟩ := five HP5.out
              obtain ⟨f0, f1, f2, f3, f4⟩ := five_frozen HP5.out
              obtain ⟨p0, p1, p2, d0, d1, d2⟩ := three l0
              clear k1 k2 k3 k4 k5 l0 l1 l2 l3 m1 m2 k1' hb9
              refine wpAnyH_ready (rs := [2]) (by kernel_rfl) (by simp) ?_
              refine AllReadyH.cons rfl (fun K hK => ?_) AllReadyH.nil
              go_simp
              refine hK.out _ _ HS9.out (fun _ => ?_)
              clear hK K
              clear x0 x1 x2 x3 x4 f0 f1 f2 f3 f4
              generalize (((((wd.setCell ⟨w.heap.size, 0, none⟩ (.slice a2.o.A0 r.m.o.reg.length a2.o.c0)).setCell ⟨w.heap.size, 1, none⟩ (.slice a2.o.A1 r.m.o.q.length a2.o.c1)).setCell ⟨w.heap.size, 2, none⟩ (.slice a2.o.A2 r.m.o.lk.length a2.o.c2)).setCell ⟨w.heap.size, 3, none⟩ (.slice a2.o.A3 r.m.o.mp.length a2.o.c3)).setCell ⟨w.heap.size, 4, none⟩ (.slice a2.At r.m.t.length a2.ct)) = w9 at HEND HS9 HS10 p0 p1 p2 d0 d1 d2 ⊢
              refine wpAnyH_ready (rs := [3]) (by kernel_rfl) (by simp) ?_
              refine AllReadyH.cons rfl (fun K hK => ?_) AllReadyH.nil
              go_simp
              refine hK.out _ _ HS10.out (fun _ => ?_)
              clear hK K
              refine wpAnyH_done (by kernel_rfl) ?_ _
              go_wp2_with fail
              go_roundw
              case rel => exact ⟨i + 1, a2, r.m, A2, r.v.length, c2, r.e, r.n, by omega, by omega, by go_num, HEE.out.2, HOKN, Lib.hid HEND.out.2.2.1, Lib.hid HEND.out.1, Lib.hid HEND.out.2.1, Lib.hid HEND.out.2.2.2⟩
              case measure => simp only [intOf]; omega
            · have r8 : (r.e == 8) = false := by simpa using h8
              have r9 : (r.e == 9) = false := by simpa using h9
              have r10 : (r.e == 10) = false := by simpa using h10
              have CA1 := Lib.hid (hM.is wc (b := true) (decide_eq_true rfl) HOKN.out HOKN.out HG3.out.rd HN3.out.rd)
              have CA2 : Hid (∀ wy, Below wc.heap.size wc wy → Calls Tryz.prog 19 #[.agg #[.int .i64 r.e, .slice A2 r.v.length c2, .int .i64 r.n], .agg #[.int .i64 r.e, .slice A3 r.v.length c3, .int .i64 r.n]] wy fun e w' => e = .returned (.bool true) ∧ Below wy.heap.size wy w') := Lib.hid (fun wy hb => same_is wy _ _ HVB.out (Rd.own_ (own_below HV3.out hb)) (Rd.own_ (own_below HW3.out hb)))
              obtain ⟨⟨q1, q2⟩, ⟨q3, q4⟩, q5, q6⟩ := FR.out wc (Below.refl _ _)
              obtain ⟨x0, x1, x2, x3, x4⟩ := five q1
              obtain ⟨y0, y1, y2, _, _, _⟩ := three q2
              obtain ⟨z0, z1, z2, z3, z4⟩ := five q3
              obtain ⟨u0, u1, u2, _, _, _⟩ := three q4
              obtain ⟨v0, v1, v2, v3, v4⟩ := five q5
              clear q1 q2 q3 q4 q5 q6
              go_upto_region 12 with (first
                | (go_at_call 11; refine CA1.out.mono ?_; rintro en w4 ⟨rfl, hb4⟩
                   have HB4 := Lib.hid hb4
                   clear x0 x1 x2 x3 x4 y0 y1 y2 z0 z1 z2 z3 z4 u0 u1 u2 v0 v1 v2 v3 v4
                   obtain ⟨⟨q1, q2⟩, ⟨q3, q4⟩, q5, q6⟩ := FR.out w4 hb4
                   obtain ⟨x0, x1, x2, x3, x4⟩ := five q1
                   obtain ⟨y0, y1, y2, _, _, _⟩ := three q2
                   obtain ⟨z0, z1, z2, z3, z4⟩ := five q3
                   obtain ⟨u0, u1, u2, _, _, _⟩ := three q4
                   obtain ⟨v0, v1, v2, v3, v4⟩ := five q5
                   clear q1 q2 q3 q4 q5 q6
                   have CA3 := Lib.hid (CA2.out w4 HB4.out)
                   clear hb4 CA1 CA2)
                | (go_at_call 19; refine CA3.out.mono ?_; rintro en wx ⟨rfl, hb5⟩
                   have HBX := Lib.hid (HB4.out.trans (hb5.mono HB4.out.size))
                   clear x0 x1 x2 x3 x4 y0 y1 y2 z0 z1 z2 z3 z4 u0 u1 u2 v0 v1 v2 v3 v4
                   obtain ⟨⟨q1, q2⟩, ⟨q3, q4⟩, q5, q6⟩ := FR.out wx HBX.out
                   obtain ⟨x0, x1, x2, x3, x4⟩ := five q1
                   obtain ⟨y0, y1, y2, _, _, _⟩ := three q2
                   obtain ⟨z0, z1, z2, z3, z4⟩ := five q3
                   obtain ⟨u0, u1, u2, _, _, _⟩ := three q4
                   obtain ⟨v0, v1, v2, v3, v4⟩ := five q5
                   clear q1 q2 q3 q4 q5 q6
                   clear hb5 CA3)
                | fail)
              clear x0 x1 x2 x3 x4 y0 y1 y2 z0 z1 z2 z3 z4 u0 u1 u2 v0 v1 v2 v3 v4
              have hbd := HBX.out.drew
              obtain ⟨⟨q1, q2⟩, _, q5, q6⟩ := FR.out wx.drew hbd
              have HS := Lib.hid (And.intro q1 q2)
              have HP5 := Lib.hid q5
              have HP6 := Lib.hid q6
              have HNX := Lib.hid (HN3.out.below hbd)
              have HVX := Lib.hid (own_below HV3.out hbd)
              have HBW := Lib.hid (HB3.out.trans (hbd.mono HB3.out.size))
              have hlt2 := HLT.out
              refine wp_region_held_drew (S := fun w' => Blk w' w2.heap.size 37 #[.slice a2.o.A0 r.m.o.reg.length a2.o.c0, .slice a2.o.A1 r.m.o.q.length a2.o.c1, .slice a2.o.A2 r.m.o.lk.length a2.o.c2, .slice a2.o.A3 r.m.o.mp.length a2.o.c3, .slice a2.At r.m.t.length a2.ct] ∧ Blk w' (w2.heap.size + 1) 40 #[.int .i64 r.e, .slice A2 r.v.length c2, .int .i64 r.n]) (by kernel_rfl) HS.out (fun _ => ?_)
              clear q1 q2 q5 q6 hbd HBX
              generalize wx.drew = wd at HS HP5 HP6 HNX HVX HBW ⊢
              refine wpAnyH_take (i := 0) (v := .agg #[.slice a2.o.A0 r.m.o.reg.length a2.o.c0, .slice a2.o.A1 r.m.o.q.length a2.o.c1, .slice a2.o.A2 r.m.o.lk.length a2.o.c2, .slice a2.o.A3 r.m.o.mp.length a2.o.c3, .slice a2.At r.m.t.length a2.ct]) rfl (by kernel_rfl) (by kernel_rfl) (by kernel_rfl) (fun _ _ _ h => h) (Or.inl ⟨by kernel_rfl, fun w h => by obtain ⟨q0, q1, q2, q3, q4⟩ := five h.1; go_simp⟩) HS.out ?_
              refine wpAnyH_take (i := 1) (v := .agg #[.int .i64 r.e, .slice A2 r.v.length c2, .int .i64 r.n]) rfl (by kernel_rfl) (by kernel_rfl) (by kernel_rfl) (fun _ _ _ h => h) (Or.inl ⟨by kernel_rfl, fun w h => by obtain ⟨q0, q1, q2, _, _, _⟩ := three h.2; go_simp⟩) HS.out ?_
              obtain ⟨k1, k2, k3, k4, k5⟩ := put5 HP5.out (.slice a2.o.A0 r.m.o.reg.length a2.o.c0) (.slice a2.o.A1 r.m.o.q.length a2.o.c1) (.slice a2.o.A2 r.m.o.lk.length a2.o.c2) (.slice a2.o.A3 r.m.o.mp.length a2.o.c3) (.slice a2.At r.m.t.length a2.ct)
              have l0 := k5 (w.heap.size + 1) _ _ (by omega) HP6.out
              obtain ⟨l1, l2, l3⟩ := put3 l0 (.int .i64 r.e) (.slice A2 r.v.length c2) (.int .i64 r.n)
              have HS9 := Lib.hid (And.intro (k5 _ _ _ (by omega) HS.out.1) (k5 _ _ _ (by omega) HS.out.2))
              have HS10 := Lib.hid (And.intro (((HS9.out.1.set_other (i := 0) (u := .int .i64 r.e) (b := w.heap.size + 1) (by omega)).set_other (i := 1) (u := .slice A2 r.v.length c2) (b := w.heap.size + 1) (by omega)).set_other (i := 2) (u := .int .i64 r.n) (b := w.heap.size + 1) (by omega)) (((HS9.out.2.set_other (i := 0) (u := .int .i64 r.e) (b := w.heap.size + 1) (by omega)).set_other (i := 1) (u := .slice A2 r.v.length c2) (b := w.heap.size + 1) (by omega)).set_other (i := 2) (u := .int .i64 r.n) (b := w.heap.size + 1) (by omega)))
              have m1 := k3 w a2 r.m HNX.out (by decide) (by decide) (by decide) (by decide) (by decide)
              have m2 := ((m1.set_t l0 (i := 0) (u := .int .i64 r.e) (by decide) (by decide) (by decide) (by decide) (by decide)).set_t (l0.set_ _ _) (i := 1) (u := .slice A2 r.v.length c2) (by decide) (by decide) (by decide) (by decide) (by decide)).set_t ((l0.set_ _ _).set_ _ _) (i := 2) (u := .int .i64 r.n) (by decide) (by decide) (by decide) (by decide) (by decide)
              have k1' := ((k1.set_other (i := 0) (u := .int .i64 r.e) (b := w.heap.size + 1) (by omega)).set_other (i := 1) (u := .slice A2 r.v.length c2) (b := w.heap.size + 1) (by omega)).set_other (i := 2) (u := .int .i64 r.n) (b := w.heap.size + 1) (by omega)
              have hb9 := l2 w (by omega) (k2 w (Nat.le_refl _) HBW.out)
              have HEND := Lib.hid (And.intro k1' (And.intro l1 (And.intro m2 hb9)))
              obtain ⟨x0, x1, x2, x3, x4⟩ := five HP5.out
              obtain ⟨f0, f1, f2, f3, f4⟩ := five_frozen HP5.out
              obtain ⟨p0, p1, p2, d0, d1, d2⟩ := three l0
              clear k1 k2 k3 k4 k5 l0 l1 l2 l3 m1 m2 k1' hb9
              refine wpAnyH_ready (rs := [2]) (by kernel_rfl) (by simp) ?_
              refine AllReadyH.cons rfl (fun K hK => ?_) AllReadyH.nil
              go_simp
              refine hK.out _ _ HS9.out (fun _ => ?_)
              clear hK K
              clear x0 x1 x2 x3 x4 f0 f1 f2 f3 f4
              generalize (((((wd.setCell ⟨w.heap.size, 0, none⟩ (.slice a2.o.A0 r.m.o.reg.length a2.o.c0)).setCell ⟨w.heap.size, 1, none⟩ (.slice a2.o.A1 r.m.o.q.length a2.o.c1)).setCell ⟨w.heap.size, 2, none⟩ (.slice a2.o.A2 r.m.o.lk.length a2.o.c2)).setCell ⟨w.heap.size, 3, none⟩ (.slice a2.o.A3 r.m.o.mp.length a2.o.c3)).setCell ⟨w.heap.size, 4, none⟩ (.slice a2.At r.m.t.length a2.ct)) = w9 at HEND HS9 HS10 p0 p1 p2 d0 d1 d2 ⊢
              refine wpAnyH_ready (rs := [3]) (by kernel_rfl) (by simp) ?_
              refine AllReadyH.cons rfl (fun K hK => ?_) AllReadyH.nil
              go_simp
              refine hK.out _ _ HS10.out (fun _ => ?_)
              clear hK K
              refine wpAnyH_done (by kernel_rfl) ?_ _
              go_wp2_with fail
              go_roundw
              case rel => exact ⟨i + 1, a2, r.m, A2, r.v.length, c2, r.e, r.n, by omega, by omega, by go_num, HEE.out.2, HOKN, Lib.hid HEND.out.2.2.1, Lib.hid HEND.out.1, Lib.hid HEND.out.2.1, Lib.hid HEND.out.2.2.2⟩
              case measure => simp only [intOf]; omega
      · have h50' : ¬ (i : Int) < 50 := by omega
        obtain ⟨l5, hl5⟩ : ∃ x, m.enc = x := ⟨_, rfl⟩
        have HL5 : Hid (Mc.dec l5 = some m ∧ l5.length ≤ 1200 ∧ ∀ x ∈ l5, x < 256) := Lib.hid (by rw [← hl5]; exact ⟨Mc.dec_enc HOK.out, HOK.out.enc_length, HOK.out.enc_lt⟩)
        have c1' := fun (wy : World) (a' : MA) (B' : Nat) (h : RdM wy B' a' m) => hE (W := wy) (w := wy) (a := a') HOK.out h (Below.refl _ _)
        rw [hl5] at c1'
        have C1 := Lib.hid c1'
        clear c1' hl5
        obtain ⟨x0, x1, x2, x3, x4⟩ := five HK.out
        go_upto_region 14 with (first
          | (go_at_call 14; refine (C1.out _ a _ HO.out.rd).mono ?_; rintro en w5 ⟨A5, c5, rfl, ho, hB, hb⟩
             have HK5 := Lib.hid (HK.out.below hb)
             have HQ5 := Lib.hid (HQ.out.below hb)
             have HO5 := Lib.hid (HO.out.below hb)
             have HB5 := Lib.hid (HB.out.trans (hb.mono HB.out.size))
             have HV5 := Lib.hid ho
             clear ho hB hb x0 x1 x2 x3 x4)
          | fail)
        have hcap := own_cap HV5.out
        have C2 := Lib.hid (hD.is (W := w5) (w := w5) (c := c5) HL5.out.1 (by have := HL5.out.2.1; omega) HL5.out.2.2 hcap.1 (by have := hcap.2; omega) (Rd.own_ HV5.out) (Below.refl _ _))
        clear hcap
        go_upto_region 15 with (first
          | (go_at_call 13; refine C2.out.mono ?_; rintro en w6 ⟨a6, he, ho, hB, hb⟩
             have he2 : en = .returned (.tuple #[.agg #[.slice a6.o.A0 m.o.reg.length a6.o.c0, .slice a6.o.A1 m.o.q.length a6.o.c1, .slice a6.o.A2 m.o.lk.length a6.o.c2, .slice a6.o.A3 m.o.mp.length a6.o.c3, .slice a6.At m.t.length a6.ct], .bool true]) := he
             clear he
             subst he2
             have bb := (Below.refl w6.heap.size w6).alloc (Nat.le_refl _) (.cells #[.slice a6.o.A0 m.o.reg.length a6.o.c0, .slice a6.o.A1 m.o.q.length a6.o.c1, .slice a6.o.A2 m.o.lk.length a6.o.c2, .slice a6.o.A3 m.o.mp.length a6.o.c3, .slice a6.At m.t.length a6.ct] 37)
             have bc := hb.trans (bb.mono hb.size)
             have HK6 := Lib.hid (HK5.out.below bc)
             have HQ6 := Lib.hid (HQ5.out.below bc)
             have HO6 := Lib.hid (HO5.out.below bc)
             have HB6 := Lib.hid (HB5.out.trans (bc.mono HB5.out.size))
             have HV6 := Lib.hid (((Rd.own_ HV5.out).below hb).fit.below bb)
             have HD6 := Lib.hid (OwnM.below (m := m) ho bb)
             have HKD := Lib.hid (Blk.new w6 37 #[.slice a6.o.A0 m.o.reg.length a6.o.c0, .slice a6.o.A1 m.o.q.length a6.o.c1, .slice a6.o.A2 m.o.lk.length a6.o.c2, .slice a6.o.A3 m.o.mp.length a6.o.c3, .slice a6.At m.t.length a6.ct])
             clear ho hB hb bb bc C2 HK5 HQ5 HO5 HB5 HV5)
          | fail)
        have hbd : Below (w6.alloc (.cells #[.slice a6.o.A0 m.o.reg.length a6.o.c0, .slice a6.o.A1 m.o.q.length a6.o.c1, .slice a6.o.A2 m.o.lk.length a6.o.c2, .slice a6.o.A3 m.o.mp.length a6.o.c3, .slice a6.At m.t.length a6.ct] 37)).heap.size (w6.alloc (.cells #[.slice a6.o.A0 m.o.reg.length a6.o.c0, .slice a6.o.A1 m.o.q.length a6.o.c1, .slice a6.o.A2 m.o.lk.length a6.o.c2, .slice a6.o.A3 m.o.mp.length a6.o.c3, .slice a6.At m.t.length a6.ct] 37)) (w6.alloc (.cells #[.slice a6.o.A0 m.o.reg.length a6.o.c0, .slice a6.o.A1 m.o.q.length a6.o.c1, .slice a6.o.A2 m.o.lk.length a6.o.c2, .slice a6.o.A3 m.o.mp.length a6.o.c3, .slice a6.At m.t.length a6.ct] 37)).drew := (Below.refl _ _).drew
        have hsz6 : w6.heap.size ≤ (w6.alloc (.cells #[.slice a6.o.A0 m.o.reg.length a6.o.c0, .slice a6.o.A1 m.o.q.length a6.o.c1, .slice a6.o.A2 m.o.lk.length a6.o.c2, .slice a6.o.A3 m.o.mp.length a6.o.c3, .slice a6.At m.t.length a6.ct] 37)).heap.size := by simp
        have HS : Hid ((fun w' => Blk w' w6.heap.size 37 #[.slice a6.o.A0 m.o.reg.length a6.o.c0, .slice a6.o.A1 m.o.q.length a6.o.c1, .slice a6.o.A2 m.o.lk.length a6.o.c2, .slice a6.o.A3 m.o.mp.length a6.o.c3, .slice a6.At m.t.length a6.ct] ∧ Blk w' w.heap.size 37 #[.slice a.o.A0 m.o.reg.length a.o.c0, .slice a.o.A1 m.o.q.length a.o.c1, .slice a.o.A2 m.o.lk.length a.o.c2, .slice a.o.A3 m.o.mp.length a.o.c3, .slice a.At m.t.length a.ct] ∧ Blk w' (w.heap.size + 1) 40 #[.int .i64 e1, .slice A1 n1 c1, .int .i64 N1] ∧ Rd w' w6.heap.size A5 l5.length (bv l5)) (w6.alloc (.cells #[.slice a6.o.A0 m.o.reg.length a6.o.c0, .slice a6.o.A1 m.o.q.length a6.o.c1, .slice a6.o.A2 m.o.lk.length a6.o.c2, .slice a6.o.A3 m.o.mp.length a6.o.c3, .slice a6.At m.t.length a6.ct] 37)).drew) := Lib.hid ⟨HKD.out.below hbd, HK6.out.below hbd, HQ6.out.below hbd, HV6.out.below (hbd.mono hsz6)⟩
        have HD7 := Lib.hid (HD6.out.below hbd)
        have HO7 := Lib.hid (HO6.out.below hbd)
        have HB7 := Lib.hid (HB6.out.trans (hbd.mono HB6.out.size))
        have HSZ : Hid (w6.heap.size ≤ (w6.alloc (.cells #[.slice a6.o.A0 m.o.reg.length a6.o.c0, .slice a6.o.A1 m.o.q.length a6.o.c1, .slice a6.o.A2 m.o.lk.length a6.o.c2, .slice a6.o.A3 m.o.mp.length a6.o.c3, .slice a6.At m.t.length a6.ct] 37)).drew.heap.size) := Lib.hid (Nat.le_trans hsz6 hbd.size)
        refine wp_region_held_drew (S := fun w' => Blk w' w6.heap.size 37 #[.slice a6.o.A0 m.o.reg.length a6.o.c0, .slice a6.o.A1 m.o.q.length a6.o.c1, .slice a6.o.A2 m.o.lk.length a6.o.c2, .slice a6.o.A3 m.o.mp.length a6.o.c3, .slice a6.At m.t.length a6.ct] ∧ Blk w' w.heap.size 37 #[.slice a.o.A0 m.o.reg.length a.o.c0, .slice a.o.A1 m.o.q.length a.o.c1, .slice a.o.A2 m.o.lk.length a.o.c2, .slice a.o.A3 m.o.mp.length a.o.c3, .slice a.At m.t.length a.ct] ∧ Blk w' (w.heap.size + 1) 40 #[.int .i64 e1, .slice A1 n1 c1, .int .i64 N1] ∧ Rd w' w6.heap.size A5 l5.length (bv l5)) (by kernel_rfl) HS.out (fun _ => ?_)
        clear hbd hsz6 HKD HK6 HQ6 HV6 HD6 HO6 HB6
        generalize (w6.alloc (.cells #[.slice a6.o.A0 m.o.reg.length a6.o.c0, .slice a6.o.A1 m.o.q.length a6.o.c1, .slice a6.o.A2 m.o.lk.length a6.o.c2, .slice a6.o.A3 m.o.mp.length a6.o.c3, .slice a6.At m.t.length a6.ct] 37)).drew = w7 at HS HD7 HO7 HB7 HSZ ⊢
        refine wpAnyH_take (i := 0) (v := .bool true) rfl (by kernel_rfl) (by kernel_rfl) (by kernel_rfl) (fun _ _ _ h => h) (Or.inl ⟨by kernel_rfl, fun w _ => by go_simp⟩) HS.out ?_
        refine wpAnyH_take (i := 1) (v := .bool true) rfl (by kernel_rfl) (by kernel_rfl) (by kernel_rfl) (fun _ _ _ h => h) (Or.inl ⟨by kernel_rfl, fun w _ => by go_simp⟩) HS.out ?_
        refine wpAnyH_take (i := 2) (v := .agg #[.slice a6.o.A0 m.o.reg.length a6.o.c0, .slice a6.o.A1 m.o.q.length a6.o.c1, .slice a6.o.A2 m.o.lk.length a6.o.c2, .slice a6.o.A3 m.o.mp.length a6.o.c3, .slice a6.At m.t.length a6.ct]) rfl (by kernel_rfl) (by kernel_rfl) (by kernel_rfl) (fun _ _ _ h => h) (Or.inl ⟨by kernel_rfl, fun w h => by obtain ⟨q0, q1, q2, q3, q4⟩ := five h.1; go_simp⟩) HS.out ?_
        refine wpAnyH_take (i := 3) (v := .agg #[.slice a.o.A0 m.o.reg.length a.o.c0, .slice a.o.A1 m.o.q.length a.o.c1, .slice a.o.A2 m.o.lk.length a.o.c2, .slice a.o.A3 m.o.mp.length a.o.c3, .slice a.At m.t.length a.ct]) rfl (by kernel_rfl) (by kernel_rfl) (by kernel_rfl) (fun _ _ _ h => h) (Or.inl ⟨by kernel_rfl, fun w h => by obtain ⟨q0, q1, q2, q3, q4⟩ := five h.2.1; go_simp⟩) HS.out ?_
        refine wpAnyH_ready (rs := [4]) (by kernel_rfl) (by simp) ?_
        refine AllReadyH.cons rfl (fun K hK => ?_) AllReadyH.nil
        go_simp
        refine (hM.is w7 (b := true) (decide_eq_true rfl) HOK.out HOK.out HD7.out.rd HO7.out.rd).mono ?_
        rintro en w8 ⟨rfl, hb8⟩
        have HS : Hid ((fun w' => Blk w' w6.heap.size 37 #[.slice a6.o.A0 m.o.reg.length a6.o.c0, .slice a6.o.A1 m.o.q.length a6.o.c1, .slice a6.o.A2 m.o.lk.length a6.o.c2, .slice a6.o.A3 m.o.mp.length a6.o.c3, .slice a6.At m.t.length a6.ct] ∧ Blk w' w.heap.size 37 #[.slice a.o.A0 m.o.reg.length a.o.c0, .slice a.o.A1 m.o.q.length a.o.c1, .slice a.o.A2 m.o.lk.length a.o.c2, .slice a.o.A3 m.o.mp.length a.o.c3, .slice a.At m.t.length a.ct] ∧ Blk w' (w.heap.size + 1) 40 #[.int .i64 e1, .slice A1 n1 c1, .int .i64 N1] ∧ Rd w' w6.heap.size A5 l5.length (bv l5)) w8) := Lib.hid ⟨HS.out.1.below hb8, HS.out.2.1.below hb8, HS.out.2.2.1.below hb8, HS.out.2.2.2.below (hb8.mono HSZ.out)⟩
        have HSZ : Hid (w6.heap.size ≤ w8.heap.size) := Lib.hid (Nat.le_trans HSZ.out hb8.size)
        have HB7 := Lib.hid (HB7.out.trans (hb8.mono HB7.out.size))
        have HD7 := Lib.hid (HD7.out.below hb8)
        have HO7 := Lib.hid (HO7.out.below hb8)
        clear hb8
        go_simp
        refine hK.out _ _ HS.out (fun _ => ?_)
        clear hK K
        refine wpAnyH_take (i := 5) (v := .bool true) rfl (by kernel_rfl) (by kernel_rfl) (by kernel_rfl) (fun _ _ _ h => h) (Or.inl ⟨by kernel_rfl, fun w _ => by go_simp⟩) HS.out ?_
        refine wpAnyH_take (i := 6) (v := .bool true) rfl (by kernel_rfl) (by kernel_rfl) (by kernel_rfl) (fun _ _ _ h => h) (Or.inl ⟨by kernel_rfl, fun w _ => by go_simp⟩) HS.out ?_
        refine wpAnyH_take (i := 7) (v := .agg #[.slice a6.o.A0 m.o.reg.length a6.o.c0, .slice a6.o.A1 m.o.q.length a6.o.c1, .slice a6.o.A2 m.o.lk.length a6.o.c2, .slice a6.o.A3 m.o.mp.length a6.o.c3, .slice a6.At m.t.length a6.ct]) rfl (by kernel_rfl) (by kernel_rfl) (by kernel_rfl) (fun _ _ _ h => h) (Or.inl ⟨by kernel_rfl, fun w h => by obtain ⟨q0, q1, q2, q3, q4⟩ := five h.1; go_simp⟩) HS.out ?_
        refine wpAnyH_take (i := 10) (v := .slice A5 l5.length c5) rfl (by kernel_rfl) (by kernel_rfl) (by kernel_rfl) (fun _ _ _ h => h) (Or.inl ⟨by kernel_rfl, fun w _ => by go_simp⟩) HS.out ?_
        refine wpAnyH_take (i := 11) (v := .string (strB l5)) rfl (by kernel_rfl) (by kernel_rfl) (by kernel_rfl) (fun _ _ _ h => h) (Or.inl ⟨by kernel_rfl, fun w h => by have q := str_of (c := c5) h.2.2.2; go_simp⟩) HS.out ?_
        refine wpAnyH_ready (rs := [8]) (by kernel_rfl) (by simp) ?_
        refine AllReadyH.cons rfl (fun K hK => ?_) AllReadyH.nil
        go_simp
        refine (C1.out _ a6 _ HD7.out.rd).mono ?_
        rintro en w9 ⟨A9, c9, rfl, ho9, hB9, hb9⟩
        have HS : Hid ((fun w' => Blk w' w6.heap.size 37 #[.slice a6.o.A0 m.o.reg.length a6.o.c0, .slice a6.o.A1 m.o.q.length a6.o.c1, .slice a6.o.A2 m.o.lk.length a6.o.c2, .slice a6.o.A3 m.o.mp.length a6.o.c3, .slice a6.At m.t.length a6.ct] ∧ Blk w' w.heap.size 37 #[.slice a.o.A0 m.o.reg.length a.o.c0, .slice a.o.A1 m.o.q.length a.o.c1, .slice a.o.A2 m.o.lk.length a.o.c2, .slice a.o.A3 m.o.mp.length a.o.c3, .slice a.At m.t.length a.ct] ∧ Blk w' (w.heap.size + 1) 40 #[.int .i64 e1, .slice A1 n1 c1, .int .i64 N1] ∧ Rd w' w6.heap.size A5 l5.length (bv l5)) w9) := Lib.hid ⟨HS.out.1.below hb9, HS.out.2.1.below hb9, HS.out.2.2.1.below hb9, HS.out.2.2.2.below (hb9.mono HSZ.out)⟩
        have HSZ : Hid (w6.heap.size ≤ w9.heap.size) := Lib.hid (Nat.le_trans HSZ.out hb9.size)
        have HB7 := Lib.hid (HB7.out.trans (hb9.mono HB7.out.size))
        have HD7 := Lib.hid (HD7.out.below hb9)
        have HO7 := Lib.hid (HO7.out.below hb9)
        have hstr := str_of (c := c9) (Rd.own_ ho9)
        clear ho9 hB9 hb9
        go_simp
        refine hK.out _ _ HS.out (fun _ => ?_)
        clear hK K
        have hself : (strB l5 == strB l5) = true := strB_self l5
        have hself2 : ((strB l5).toList == (strB l5).toList) = true := by simp
        refine wpAnyH_ready (rs := [9]) (by kernel_rfl) (by simp) ?_
        refine AllReadyH.cons rfl (fun K hK => ?_) AllReadyH.nil
        go_simp
        refine hK.out _ _ HS.out (fun _ => ?_)
        clear hK K
        clear hstr
        refine wpAnyH_take (i := 12) (v := .bool true) rfl (by kernel_rfl) (by kernel_rfl) (by kernel_rfl) (fun _ _ _ h => h) (Or.inl ⟨by kernel_rfl, fun w _ => by go_simp⟩) HS.out ?_
        refine wpAnyH_take (i := 13) (v := .bool true) rfl (by kernel_rfl) (by kernel_rfl) (by kernel_rfl) (fun _ _ _ h => h) (Or.inl ⟨by kernel_rfl, fun w _ => by go_simp⟩) HS.out ?_
        refine wpAnyH_take (i := 14) (v := .bool true) rfl (by kernel_rfl) (by kernel_rfl) (by kernel_rfl) (fun _ _ _ h => h) (Or.inl ⟨by kernel_rfl, fun w _ => by go_simp⟩) HS.out ?_
        refine wpAnyH_take (i := 15) (v := .pointer (some ⟨w.heap.size + 1, 0, none⟩)) rfl (by kernel_rfl) (by kernel_rfl) (by kernel_rfl) (fun _ _ _ h => h) (Or.inl ⟨by kernel_rfl, fun w _ => by go_simp⟩) HS.out ?_
        refine wpAnyH_take (i := 16) (v := .int .i64 e1) rfl (by kernel_rfl) (by kernel_rfl) (by kernel_rfl) (fun _ _ _ h => h) (Or.inl ⟨by kernel_rfl, fun w h => by obtain ⟨q0, q1, q2, _, _, _⟩ := three h.2.2.1; go_simp⟩) HS.out ?_
        refine wpAnyH_take (i := 17) (v := .bool true) rfl (by kernel_rfl) (by kernel_rfl) (by kernel_rfl) (fun _ _ _ h => h) (Or.inl ⟨by kernel_rfl, fun w _ => by go_simp⟩) HS.out ?_
        refine wpAnyH_take (i := 18) (v := .bool true) rfl (by kernel_rfl) (by kernel_rfl) (by kernel_rfl) (fun _ _ _ h => h) (Or.inl ⟨by kernel_rfl, fun w _ => by go_simp⟩) HS.out ?_
        refine wpAnyH_take (i := 19) (v := .bool true) rfl (by kernel_rfl) (by kernel_rfl) (by kernel_rfl) (fun _ _ _ h => h) (Or.inl ⟨by kernel_rfl, fun w _ => by go_simp⟩) HS.out ?_
        refine wpAnyH_ready (rs := [20]) (by kernel_rfl) (by simp) ?_
        refine AllReadyH.cons rfl (fun K hK => ?_) AllReadyH.nil
        go_simp
        refine (hA _).mono ?_
        rintro en w10 ⟨rfl, hb10⟩
        have HS : Hid ((fun w' => Blk w' w6.heap.size 37 #[.slice a6.o.A0 m.o.reg.length a6.o.c0, .slice a6.o.A1 m.o.q.length a6.o.c1, .slice a6.o.A2 m.o.lk.length a6.o.c2, .slice a6.o.A3 m.o.mp.length a6.o.c3, .slice a6.At m.t.length a6.ct] ∧ Blk w' w.heap.size 37 #[.slice a.o.A0 m.o.reg.length a.o.c0, .slice a.o.A1 m.o.q.length a.o.c1, .slice a.o.A2 m.o.lk.length a.o.c2, .slice a.o.A3 m.o.mp.length a.o.c3, .slice a.At m.t.length a.ct] ∧ Blk w' (w.heap.size + 1) 40 #[.int .i64 e1, .slice A1 n1 c1, .int .i64 N1] ∧ Rd w' w6.heap.size A5 l5.length (bv l5)) w10) := Lib.hid ⟨HS.out.1.below hb10, HS.out.2.1.below hb10, HS.out.2.2.1.below hb10, HS.out.2.2.2.below (hb10.mono HSZ.out)⟩
        have HSZ : Hid (w6.heap.size ≤ w10.heap.size) := Lib.hid (Nat.le_trans HSZ.out hb10.size)
        have HB7 := Lib.hid (HB7.out.trans (hb10.mono HB7.out.size))
        have HD7 := Lib.hid (HD7.out.below hb10)
        have HO7 := Lib.hid (HO7.out.below hb10)
        clear hb10
        go_simp
        refine hK.out _ _ HS.out (fun _ => ?_)
        clear hK K
        refine wpAnyH_take (i := 21) (v := .bool true) rfl (by kernel_rfl) (by kernel_rfl) (by kernel_rfl) (fun _ _ _ h => h) (Or.inl ⟨by kernel_rfl, fun w _ => by go_simp⟩) HS.out ?_
        refine wpAnyH_ready (rs := [22]) (by kernel_rfl) (by simp) ?_
        refine AllReadyH.cons rfl (fun K hK => ?_) AllReadyH.nil
        go_simp
        refine hK.out _ _ HS.out (fun _ => ?_)
        clear hK K
        refine wpAnyH_done (by kernel_rfl) ?_ _
        go_wp2_with fail
        go_ret
        exact ⟨rfl, HB7.out⟩
    · have hlt' : ¬ (i : Int) < (n : Int) := by omega
      obtain ⟨l5, hl5⟩ : ∃ x, m.enc = x := ⟨_, rfl⟩
      have HL5 : Hid (Mc.dec l5 = some m ∧ l5.length ≤ 1200 ∧ ∀ x ∈ l5, x < 256) := Lib.hid (by rw [← hl5]; exact ⟨Mc.dec_enc HOK.out, HOK.out.enc_length, HOK.out.enc_lt⟩)
      have c1' := fun (wy : World) (a' : MA) (B' : Nat) (h : RdM wy B' a' m) => hE (W := wy) (w := wy) (a := a') HOK.out h (Below.refl _ _)
      rw [hl5] at c1'
      have C1 := Lib.hid c1'
      clear c1' hl5
      obtain ⟨x0, x1, x2, x3, x4⟩ := five HK.out
      go_upto_region 14 with (first
        | (go_at_call 14; refine (C1.out _ a _ HO.out.rd).mono ?_; rintro en w5 ⟨A5, c5, rfl, ho, hB, hb⟩
           have HK5 := Lib.hid (HK.out.below hb)
           have HQ5 := Lib.hid (HQ.out.below hb)
           have HO5 := Lib.hid (HO.out.below hb)
           have HB5 := Lib.hid (HB.out.trans (hb.mono HB.out.size))
           have HV5 := Lib.hid ho
           clear ho hB hb x0 x1 x2 x3 x4)
        | fail)
      have hcap := own_cap HV5.out
      have C2 := Lib.hid (hD.is (W := w5) (w := w5) (c := c5) HL5.out.1 (by have := HL5.out.2.1; omega) HL5.out.2.2 hcap.1 (by have := hcap.2; omega) (Rd.own_ HV5.out) (Below.refl _ _))
      clear hcap
      go_upto_region 15 with (first
        | (go_at_call 13; refine C2.out.mono ?_; rintro en w6 ⟨a6, he, ho, hB, hb⟩
           have he2 : en = .returned (.tuple #[.agg #[.slice a6.o.A0 m.o.reg.length a6.o.c0, .slice a6.o.A1 m.o.q.length a6.o.c1, .slice a6.o.A2 m.o.lk.length a6.o.c2, .slice a6.o.A3 m.o.mp.length a6.o.c3, .slice a6.At m.t.length a6.ct], .bool true]) := he
           clear he
           subst he2
           have bb := (Below.refl w6.heap.size w6).alloc (Nat.le_refl _) (.cells #[.slice a6.o.A0 m.o.reg.length a6.o.c0, .slice a6.o.A1 m.o.q.length a6.o.c1, .slice a6.o.A2 m.o.lk.length a6.o.c2, .slice a6.o.A3 m.o.mp.length a6.o.c3, .slice a6.At m.t.length a6.ct] 37)
           have bc := hb.trans (bb.mono hb.size)
           have HK6 := Lib.hid (HK5.out.below bc)
           have HQ6 := Lib.hid (HQ5.out.below bc)
           have HO6 := Lib.hid (HO5.out.below bc)
           have HB6 := Lib.hid (HB5.out.trans (bc.mono HB5.out.size))
           have HV6 := Lib.hid (((Rd.own_ HV5.out).below hb).fit.below bb)
           have HD6 := Lib.hid (OwnM.below (m := m) ho bb)
           have HKD := Lib.hid (Blk.new w6 37 #[.slice a6.o.A0 m.o.reg.length a6.o.c0, .slice a6.o.A1 m.o.q.length a6.o.c1, .slice a6.o.A2 m.o.lk.length a6.o.c2, .slice a6.o.A3 m.o.mp.length a6.o.c3, .slice a6.At m.t.length a6.ct])
           clear ho hB hb bb bc C2 HK5 HQ5 HO5 HB5 HV5)
        | fail)
      have hbd : Below (w6.alloc (.cells #[.slice a6.o.A0 m.o.reg.length a6.o.c0, .slice a6.o.A1 m.o.q.length a6.o.c1, .slice a6.o.A2 m.o.lk.length a6.o.c2, .slice a6.o.A3 m.o.mp.length a6.o.c3, .slice a6.At m.t.length a6.ct] 37)).heap.size (w6.alloc (.cells #[.slice a6.o.A0 m.o.reg.length a6.o.c0, .slice a6.o.A1 m.o.q.length a6.o.c1, .slice a6.o.A2 m.o.lk.length a6.o.c2, .slice a6.o.A3 m.o.mp.length a6.o.c3, .slice a6.At m.t.length a6.ct] 37)) (w6.alloc (.cells #[.slice a6.o.A0 m.o.reg.length a6.o.c0, .slice a6.o.A1 m.o.q.length a6.o.c1, .slice a6.o.A2 m.o.lk.length a6.o.c2, .slice a6.o.A3 m.o.mp.length a6.o.c3, .slice a6.At m.t.length a6.ct] 37)).drew := (Below.refl _ _).drew
      have hsz6 : w6.heap.size ≤ (w6.alloc (.cells #[.slice a6.o.A0 m.o.reg.length a6.o.c0, .slice a6.o.A1 m.o.q.length a6.o.c1, .slice a6.o.A2 m.o.lk.length a6.o.c2, .slice a6.o.A3 m.o.mp.length a6.o.c3, .slice a6.At m.t.length a6.ct] 37)).heap.size := by simp
      have HS : Hid ((fun w' => Blk w' w6.heap.size 37 #[.slice a6.o.A0 m.o.reg.length a6.o.c0, .slice a6.o.A1 m.o.q.length a6.o.c1, .slice a6.o.A2 m.o.lk.length a6.o.c2, .slice a6.o.A3 m.o.mp.length a6.o.c3, .slice a6.At m.t.length a6.ct] ∧ Blk w' w.heap.size 37 #[.slice a.o.A0 m.o.reg.length a.o.c0, .slice a.o.A1 m.o.q.length a.o.c1, .slice a.o.A2 m.o.lk.length a.o.c2, .slice a.o.A3 m.o.mp.length a.o.c3, .slice a.At m.t.length a.ct] ∧ Blk w' (w.heap.size + 1) 40 #[.int .i64 e1, .slice A1 n1 c1, .int .i64 N1] ∧ Rd w' w6.heap.size A5 l5.length (bv l5)) (w6.alloc (.cells #[.slice a6.o.A0 m.o.reg.length a6.o.c0, .slice a6.o.A1 m.o.q.length a6.o.c1, .slice a6.o.A2 m.o.lk.length a6.o.c2, .slice a6.o.A3 m.o.mp.length a6.o.c3, .slice a6.At m.t.length a6.ct] 37)).drew) := Lib.hid ⟨HKD.out.below hbd, HK6.out.below hbd, HQ6.out.below hbd, HV6.out.below (hbd.mono hsz6)⟩
      have HD7 := Lib.hid (HD6.out.below hbd)
      have HO7 := Lib.hid (HO6.out.below hbd)
      have HB7 := Lib.hid (HB6.out.trans (hbd.mono HB6.out.size))
      have HSZ : Hid (w6.heap.size ≤ (w6.alloc (.cells #[.slice a6.o.A0 m.o.reg.length a6.o.c0, .slice a6.o.A1 m.o.q.length a6.o.c1, .slice a6.o.A2 m.o.lk.length a6.o.c2, .slice a6.o.A3 m.o.mp.length a6.o.c3, .slice a6.At m.t.length a6.ct] 37)).drew.heap.size) := Lib.hid (Nat.le_trans hsz6 hbd.size)
      refine wp_region_held_drew (S := fun w' => Blk w' w6.heap.size 37 #[.slice a6.o.A0 m.o.reg.length a6.o.c0, .slice a6.o.A1 m.o.q.length a6.o.c1, .slice a6.o.A2 m.o.lk.length a6.o.c2, .slice a6.o.A3 m.o.mp.length a6.o.c3, .slice a6.At m.t.length a6.ct] ∧ Blk w' w.heap.size 37 #[.slice a.o.A0 m.o.reg.length a.o.c0, .slice a.o.A1 m.o.q.length a.o.c1, .slice a.o.A2 m.o.lk.length a.o.c2, .slice a.o.A3 m.o.mp.length a.o.c3, .slice a.At m.t.length a.ct] ∧ Blk w' (w.heap.size + 1) 40 #[.int .i64 e1, .slice A1 n1 c1, .int .i64 N1] ∧ Rd w' w6.heap.size A5 l5.length (bv l5)) (by kernel_rfl) HS.out (fun _ => ?_)
      clear hbd hsz6 HKD HK6 HQ6 HV6 HD6 HO6 HB6
      generalize (w6.alloc (.cells #[.slice a6.o.A0 m.o.reg.length a6.o.c0, .slice a6.o.A1 m.o.q.length a6.o.c1, .slice a6.o.A2 m.o.lk.length a6.o.c2, .slice a6.o.A3 m.o.mp.length a6.o.c3, .slice a6.At m.t.length a6.ct] 37)).drew = w7 at HS HD7 HO7 HB7 HSZ ⊢
      refine wpAnyH_take (i := 0) (v := .bool true) rfl (by kernel_rfl) (by kernel_rfl) (by kernel_rfl) (fun _ _ _ h => h) (Or.inl ⟨by kernel_rfl, fun w _ => by go_simp⟩) HS.out ?_
      refine wpAnyH_take (i := 1) (v := .bool true) rfl (by kernel_rfl) (by kernel_rfl) (by kernel_rfl) (fun _ _ _ h => h) (Or.inl ⟨by kernel_rfl, fun w _ => by go_simp⟩) HS.out ?_
      refine wpAnyH_take (i := 2) (v := .agg #[.slice a6.o.A0 m.o.reg.length a6.o.c0, .slice a6.o.A1 m.o.q.length a6.o.c1, .slice a6.o.A2 m.o.lk.length a6.o.c2, .slice a6.o.A3 m.o.mp.length a6.o.c3, .slice a6.At m.t.length a6.ct]) rfl (by kernel_rfl) (by kernel_rfl) (by kernel_rfl) (fun _ _ _ h => h) (Or.inl ⟨by kernel_rfl, fun w h => by obtain ⟨q0, q1, q2, q3, q4⟩ := five h.1; go_simp⟩) HS.out ?_
      refine wpAnyH_take (i := 3) (v := .agg #[.slice a.o.A0 m.o.reg.length a.o.c0, .slice a.o.A1 m.o.q.length a.o.c1, .slice a.o.A2 m.o.lk.length a.o.c2, .slice a.o.A3 m.o.mp.length a.o.c3, .slice a.At m.t.length a.ct]) rfl (by kernel_rfl) (by kernel_rfl) (by kernel_rfl) (fun _ _ _ h => h) (Or.inl ⟨by kernel_rfl, fun w h => by obtain ⟨q0, q1, q2, q3, q4⟩ := five h.2.1; go_simp⟩) HS.out ?_
      refine wpAnyH_ready (rs := [4]) (by kernel_rfl) (by simp) ?_
      refine AllReadyH.cons rfl (fun K hK => ?_) AllReadyH.nil
      go_simp
      refine (hM.is w7 (b := true) (decide_eq_true rfl) HOK.out HOK.out HD7.out.rd HO7.out.rd).mono ?_
      rintro en w8 ⟨rfl, hb8⟩
      have HS : Hid ((fun w' => Blk w' w6.heap.size 37 #[.slice a6.o.A0 m.o.reg.length a6.o.c0, .slice a6.o.A1 m.o.q.length a6.o.c1, .slice a6.o.A2 m.o.lk.length a6.o.c2, .slice a6.o.A3 m.o.mp.length a6.o.c3, .slice a6.At m.t.length a6.ct] ∧ Blk w' w.heap.size 37 #[.slice a.o.A0 m.o.reg.length a.o.c0, .slice a.o.A1 m.o.q.length a.o.c1, .slice a.o.A2 m.o.lk.length a.o.c2, .slice a.o.A3 m.o.mp.length a.o.c3, .slice a.At m.t.length a.ct] ∧ Blk w' (w.heap.size + 1) 40 #[.int .i64 e1, .slice A1 n1 c1, .int .i64 N1] ∧ Rd w' w6.heap.size A5 l5.length (bv l5)) w8) := Lib.hid ⟨HS.out.1.below hb8, HS.out.2.1.below hb8, HS.out.2.2.1.below hb8, HS.out.2.2.2.below (hb8.mono HSZ.out)⟩
      have HSZ : Hid (w6.heap.size ≤ w8.heap.size) := Lib.hid (Nat.le_trans HSZ.out hb8.size)
      have HB7 := Lib.hid (HB7.out.trans (hb8.mono HB7.out.size))
      have HD7 := Lib.hid (HD7.out.below hb8)
      have HO7 := Lib.hid (HO7.out.below hb8)
      clear hb8
      go_simp
      refine hK.out _ _ HS.out (fun _ => ?_)
      clear hK K
      refine wpAnyH_take (i := 5) (v := .bool true) rfl (by kernel_rfl) (by kernel_rfl) (by kernel_rfl) (fun _ _ _ h => h) (Or.inl ⟨by kernel_rfl, fun w _ => by go_simp⟩) HS.out ?_
      refine wpAnyH_take (i := 6) (v := .bool true) rfl (by kernel_rfl) (by kernel_rfl) (by kernel_rfl) (fun _ _ _ h => h) (Or.inl ⟨by kernel_rfl, fun w _ => by go_simp⟩) HS.out ?_
      refine wpAnyH_take (i := 7) (v := .agg #[.slice a6.o.A0 m.o.reg.length a6.o.c0, .slice a6.o.A1 m.o.q.length a6.o.c1, .slice a6.o.A2 m.o.lk.length a6.o.c2, .slice a6.o.A3 m.o.mp.length a6.o.c3, .slice a6.At m.t.length a6.ct]) rfl (by kernel_rfl) (by kernel_rfl) (by kernel_rfl) (fun _ _ _ h => h) (Or.inl ⟨by kernel_rfl, fun w h => by obtain ⟨q0, q1, q2, q3, q4⟩ := five h.1; go_simp⟩) HS.out ?_
      refine wpAnyH_take (i := 10) (v := .slice A5 l5.length c5) rfl (by kernel_rfl) (by kernel_rfl) (by kernel_rfl) (fun _ _ _ h => h) (Or.inl ⟨by kernel_rfl, fun w _ => by go_simp⟩) HS.out ?_
      refine wpAnyH_take (i := 11) (v := .string (strB l5)) rfl (by kernel_rfl) (by kernel_rfl) (by kernel_rfl) (fun _ _ _ h => h) (Or.inl ⟨by kernel_rfl, fun w h => by have q := str_of (c := c5) h.2.2.2; go_simp⟩) HS.out ?_
      refine wpAnyH_ready (rs := [8]) (by kernel_rfl) (by simp) ?_
      refine AllReadyH.cons rfl (fun K hK => ?_) AllReadyH.nil
      go_simp
      refine (C1.out _ a6 _ HD7.out.rd).mono ?_
      rintro en w9 ⟨A9, c9, rfl, ho9, hB9, hb9⟩
      have HS : Hid ((fun w' => Blk w' w6.heap.size 37 #[.slice a6.o.A0 m.o.reg.length a6.o.c0, .slice a6.o.A1 m.o.q.length a6.o.c1, .slice a6.o.A2 m.o.lk.length a6.o.c2, .slice a6.o.A3 m.o.mp.length a6.o.c3, .slice a6.At m.t.length a6.ct] ∧ Blk w' w.heap.size 37 #[.slice a.o.A0 m.o.reg.length a.o.c0, .slice a.o.A1 m.o.q.length a.o.c1, .slice a.o.A2 m.o.lk.length a.o.c2, .slice a.o.A3 m.o.mp.length a.o.c3, .slice a.At m.t.length a.ct] ∧ Blk w' (w.heap.size + 1) 40 #[.int .i64 e1, .slice A1 n1 c1, .int .i64 N1] ∧ Rd w' w6.heap.size A5 l5.length (bv l5)) w9) := Lib.hid ⟨HS.out.1.below hb9, HS.out.2.1.below hb9, HS.out.2.2.1.below hb9, HS.out.2.2.2.below (hb9.mono HSZ.out)⟩
      have HSZ : Hid (w6.heap.size ≤ w9.heap.size) := Lib.hid (Nat.le_trans HSZ.out hb9.size)
      have HB7 := Lib.hid (HB7.out.trans (hb9.mono HB7.out.size))
      have HD7 := Lib.hid (HD7.out.below hb9)
      have HO7 := Lib.hid (HO7.out.below hb9)
      have hstr := str_of (c := c9) (Rd.own_ ho9)
      clear ho9 hB9 hb9
      go_simp
      refine hK.out _ _ HS.out (fun _ => ?_)
      clear hK K
      have hself : (strB l5 == strB l5) = true := strB_self l5
      have hself2 : ((strB l5).toList == (strB l5).toList) = true := by simp
      refine wpAnyH_ready (rs := [9]) (by kernel_rfl) (by simp) ?_
      refine AllReadyH.cons rfl (fun K hK => ?_) AllReadyH.nil
      go_simp
      refine hK.out _ _ HS.out (fun _ => ?_)
      clear hK K
      clear hstr
      refine wpAnyH_take (i := 12) (v := .bool true) rfl (by kernel_rfl) (by kernel_rfl) (by kernel_rfl) (fun _ _ _ h => h) (Or.inl ⟨by kernel_rfl, fun w _ => by go_simp⟩) HS.out ?_
      refine wpAnyH_take (i := 13) (v := .bool true) rfl (by kernel_rfl) (by kernel_rfl) (by kernel_rfl) (fun _ _ _ h => h) (Or.inl ⟨by kernel_rfl, fun w _ => by go_simp⟩) HS.out ?_
      refine wpAnyH_take (i := 14) (v := .bool true) rfl (by kernel_rfl) (by kernel_rfl) (by kernel_rfl) (fun _ _ _ h => h) (Or.inl ⟨by kernel_rfl, fun w _ => by go_simp⟩) HS.out ?_
      refine wpAnyH_take (i := 15) (v := .pointer (some ⟨w.heap.size + 1, 0, none⟩)) rfl (by kernel_rfl) (by kernel_rfl) (by kernel_rfl) (fun _ _ _ h => h) (Or.inl ⟨by kernel_rfl, fun w _ => by go_simp⟩) HS.out ?_
      refine wpAnyH_take (i := 16) (v := .int .i64 e1) rfl (by kernel_rfl) (by kernel_rfl) (by kernel_rfl) (fun _ _ _ h => h) (Or.inl ⟨by kernel_rfl, fun w h => by obtain ⟨q0, q1, q2, _, _, _⟩ := three h.2.2.1; go_simp⟩) HS.out ?_
      refine wpAnyH_take (i := 17) (v := .bool true) rfl (by kernel_rfl) (by kernel_rfl) (by kernel_rfl) (fun _ _ _ h => h) (Or.inl ⟨by kernel_rfl, fun w _ => by go_simp⟩) HS.out ?_
      refine wpAnyH_take (i := 18) (v := .bool true) rfl (by kernel_rfl) (by kernel_rfl) (by kernel_rfl) (fun _ _ _ h => h) (Or.inl ⟨by kernel_rfl, fun w _ => by go_simp⟩) HS.out ?_
      refine wpAnyH_take (i := 19) (v := .bool true) rfl (by kernel_rfl) (by kernel_rfl) (by kernel_rfl) (fun _ _ _ h => h) (Or.inl ⟨by kernel_rfl, fun w _ => by go_simp⟩) HS.out ?_
      refine wpAnyH_ready (rs := [20]) (by kernel_rfl) (by simp) ?_
      refine AllReadyH.cons rfl (fun K hK => ?_) AllReadyH.nil
      go_simp
      refine (hA _).mono ?_
      rintro en w10 ⟨rfl, hb10⟩
      have HS : Hid ((fun w' => Blk w' w6.heap.size 37 #[.slice a6.o.A0 m.o.reg.length a6.o.c0, .slice a6.o.A1 m.o.q.length a6.o.c1, .slice a6.o.A2 m.o.lk.length a6.o.c2, .slice a6.o.A3 m.o.mp.length a6.o.c3, .slice a6.At m.t.length a6.ct] ∧ Blk w' w.heap.size 37 #[.slice a.o.A0 m.o.reg.length a.o.c0, .slice a.o.A1 m.o.q.length a.o.c1, .slice a.o.A2 m.o.lk.length a.o.c2, .slice a.o.A3 m.o.mp.length a.o.c3, .slice a.At m.t.length a.ct] ∧ Blk w' (w.heap.size + 1) 40 #[.int .i64 e1, .slice A1 n1 c1, .int .i64 N1] ∧ Rd w' w6.heap.size A5 l5.length (bv l5)) w10) := Lib.hid ⟨HS.out.1.below hb10, HS.out.2.1.below hb10, HS.out.2.2.1.below hb10, HS.out.2.2.2.below (hb10.mono HSZ.out)⟩
      have HSZ : Hid (w6.heap.size ≤ w10.heap.size) := Lib.hid (Nat.le_trans HSZ.out hb10.size)
      have HB7 := Lib.hid (HB7.out.trans (hb10.mono HB7.out.size))
      have HD7 := Lib.hid (HD7.out.below hb10)
      have HO7 := Lib.hid (HO7.out.below hb10)
      clear hb10
      go_simp
      refine hK.out _ _ HS.out (fun _ => ?_)
      clear hK K
      refine wpAnyH_take (i := 21) (v := .bool true) rfl (by kernel_rfl) (by kernel_rfl) (by kernel_rfl) (fun _ _ _ h => h) (Or.inl ⟨by kernel_rfl, fun w _ => by go_simp⟩) HS.out ?_
      refine wpAnyH_ready (rs := [22]) (by kernel_rfl) (by simp) ?_
      refine AllReadyH.cons rfl (fun K hK => ?_) AllReadyH.nil
      go_simp
      refine hK.out _ _ HS.out (fun _ => ?_)
      clear hK K
      refine wpAnyH_done (by kernel_rfl) ?_ _
      go_wp2_with fail
      go_ret
      exact ⟨rfl, HB7.out⟩
end Go.Proofs.YthfnnieklkaefaaGreat

