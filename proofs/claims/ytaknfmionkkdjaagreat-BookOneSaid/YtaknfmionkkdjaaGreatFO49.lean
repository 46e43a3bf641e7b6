/- BookCode7 BookCode8 -/
import Derived.Test.YtaknfmionkkdjaaGreatFO46
import Derived.Test.YtaknfmionkkdjaaGreatFO47
namespace Go.Proofs.YtaknfmionkkdjaaGreat
open Go.RowKit
set_option linter.unusedVariables false
/-- a book of what was loaded -/
def Bk.loadL (m : Mc) (pos : Int) (l : List En) : Bk := Bk.load ⟨pos, m, l⟩
theorem Bk.loadL_f (m : Mc) (pos : Int) (l : List En) (i : Int) : (Bk.loadL m pos l).f i = if pos < i then l[(i - pos - 1).toNat]? else none := rfl
theorem Bk.loadL_may (m : Mc) (pos : Int) (l : List En) : (Bk.loadL m pos l).may (pos + l.length + 1) = true := by
  unfold Bk.may
  rw [Bk.loadL_f, if_pos (by omega), List.getElem?_eq_none (by omega)]
  show (!false && decide (pos < pos + l.length + 1) && decide (pos + l.length + 1 ≤ pos + l.length + 64)) = true
  rw [decide_eq_true (by omega), decide_eq_true (by omega)]
  rfl
theorem Bk.loadL_add (m : Mc) (pos : Int) (l : List En) (e : En) : (Bk.loadL m pos l).add (pos + l.length + 1) e = Bk.loadL m pos (l ++ [e]) := by
  have hf : Bk.upd (Bk.loadL m pos l).f (pos + l.length + 1) e = (Bk.loadL m pos (l ++ [e])).f := by
    funext i
    unfold Bk.upd
    rw [Bk.loadL_f, Bk.loadL_f]
    by_cases h1 : i = pos + l.length + 1
    · rw [if_pos h1, if_pos (by omega), show (i - pos - 1).toNat = l.length by omega]
      simp
    · rw [if_neg h1]
      by_cases h2 : pos < i
      · rw [if_pos h2, if_pos h2]
        rcases Nat.lt_or_ge (i - pos - 1).toNat l.length with h3 | h3
        · rw [List.getElem?_append_left h3]
        · rw [List.getElem?_eq_none h3, List.getElem?_eq_none (by simp; omega)]
      · rw [if_neg h2, if_neg h2]
  have hw : (Bk.loadL m pos l).addWh (pos + l.length + 1) e = pos + (l ++ [e]).length := by
    unfold Bk.addWh
    rw [hf]
    have h1 : ((Bk.loadL m pos (l ++ [e])).f (pos + l.length + 1)).isSome = true := by
      rw [Bk.loadL_f, if_pos (by omega), show (pos + (l.length : Int) + 1 - pos - 1).toNat = l.length by omega]
      simp
    have h2 : ((Bk.loadL m pos (l ++ [e])).f (pos + l.length + 1 + 1)).isSome = false := by
      rw [Bk.loadL_f, if_pos (by omega), List.getElem?_eq_none (by simp; omega)]
      rfl
    show (if ((Bk.loadL m pos (l ++ [e])).f (pos + l.length + 1)).isSome then Bk.up (Bk.loadL m pos (l ++ [e])).f 129 (pos + l.length + 1) else pos + l.length) = _
    rw [if_pos h1]
    show (if ((Bk.loadL m pos (l ++ [e])).f (pos + l.length + 1 + 1)).isSome then Bk.up (Bk.loadL m pos (l ++ [e])).f 128 (pos + l.length + 1 + 1) else pos + l.length + 1) = _
    rw [h2]
    simp
    omega
  unfold Bk.add
  rw [if_pos (Bk.loadL_may m pos l), hf, hw]
  rfl
theorem Rd.keepsB {w w' : World} {b B n : Nat} {A : Option Addr} {vs : List Value} (h : Rd w B A n vs) (hk : Keeps (fun q => q = b) w w') (hb : ∀ j z, w.cell? ⟨b, j, none⟩ ≠ some z ∨ vs[0]? ≠ some z) : Rd w' w'.heap.size A n vs := by
  refine Rd.fit (B := w.heap.size) ⟨h.1, fun hn => ?_⟩
  obtain ⟨g, o, e1, hlt, hc⟩ := h.fit.2 hn
  have hne : g ≠ b := by
    rintro rfl
    have h0 := hc 0 hn
    obtain ⟨z, hz⟩ : ∃ z, vs[0]? = some z := ⟨_, List.getElem?_eq_getElem (by rw [h.1]; exact hn)⟩
    rw [hz] at h0
    rcases hb (o + 0) z with q | q
    · exact q h0
    · exact q hz
  exact ⟨g, o, e1, hlt, fun i hi => (World.cell?_of_block (hk.block g hlt hne)).trans (hc i hi)⟩
section
variable {w w' : World} {b : Nat} {A0 A1 A2 A3 A4 : Option Addr} {n0 c0 n1 c1 n2 c2 n3 c3 n4 c4 : Nat} {p5 : Option Addr}
theorem book_noInt (hb : Blk w b 80 #[.slice A0 n0 c0, .slice A1 n1 c1, .slice A2 n2 c2, .slice A3 n3 c3, .slice A4 n4 c4, .pointer p5]) (j : Nat) (k : IntKind) (i : Int) : w.cell? ⟨b, j, none⟩ ≠ some (.int k i) := by
  rw [hb.cell]
  match j with
  | 0 => simp
  | 1 => simp
  | 2 => simp
  | 3 => simp
  | 4 => simp
  | 5 => simp
  | j + 6 => simp
theorem RdE.keepsB {B n : Nat} {A : Option Addr} {es : List En} (h : RdE w B A n es) (hb : Blk w b 80 #[.slice A0 n0 c0, .slice A1 n1 c1, .slice A2 n2 c2, .slice A3 n3 c3, .slice A4 n4 c4, .pointer p5]) (hk : Keeps (fun q => q = b) w w') : RdE w' w'.heap.size A n es := by
  obtain ⟨vs, h1, h2⟩ := h
  have hbv : ∀ {A : Option Addr} {l : List Nat}, Rd w B A l.length (bv l) → Rd w' w'.heap.size A l.length (bv l) := fun {A l} h => by
    refine h.keepsB hk (fun j z => ?_)
    cases l with
    | nil => exact .inr (by simp [bv])
    | cons x r =>
      by_cases q : (bv (x :: r))[0]? = some z
      · left
        have : z = .int .u8 ((x : Nat) : Int) := by simpa [bv] using q.symm
        rw [this]
        exact book_noInt hb j _ _
      · exact .inr q
  refine ⟨vs, h1.keepsB hk (fun j z => ?_), h2.imp fun a c h => ⟨hbv h.rk, hbv h.rv, hbv h.ro⟩⟩
  by_cases q : vs[0]? = some z
  · left
    have hl := h2.len
    have hlt : 0 < es.length := by
      rcases Nat.eq_zero_or_pos es.length with h0 | h0
      · rw [h0] at hl
        rw [List.getElem?_eq_none (by omega)] at q; cases q
      · exact h0
    obtain ⟨e, he⟩ : ∃ e, es[0]? = some e := ⟨_, List.getElem?_eq_getElem hlt⟩
    obtain ⟨ca, q1, _⟩ := h2.cell 0 e he
    have q2 := q1 0 _ rfl
    rw [Nat.zero_mul, Nat.zero_add, q] at q2
    injection q2 with q2
    rw [q2]
    exact book_noInt hb j _ _
  · exact .inr q
end
set_option maxHeartbeats 8000000 in
set_option maxRecDepth 100000 in
theorem bkLoadM (w : World) {b : Nat} {A0 A1 A2 A3 A4 : Option Addr} {n0 c0 n1 c1 n2 c2 n3 c3 n4 c4 : Nat} {p5 : Option Addr} (hb : Blk w b 80 #[.slice A0 n0 c0, .slice A1 n1 c1, .slice A2 n2 c2, .slice A3 n3 c3, .slice A4 n4 c4, .pointer p5])
    {a : SA} {s : Sb} {B : Nat} (hr : RdS w B a s) (hm : s.m.Ok) (hf : ∀ e ∈ s.rest, e.c.Fits) (hp0 : 0 ≤ s.pos) (hp1 : s.pos ≤ 1099511627776) (hl : s.rest.length ≤ 1000) :
    Calls Tryz.prog 20 #[.pointer (some ⟨b, 0, none⟩), stateV a s] w fun en w' => en = .returned (.tuple #[]) ∧ ∃ S', BkAt w' S' b (Bk.load s) ∧ Keeps (fun q => q = b) w w' ∧ ∀ q, S' q → q = b ∨ w.heap.size ≤ q := by
  obtain ⟨am, Ar, cr⟩ := a
  have HB0 := Lib.hid hb
  have HR0 := Lib.hid hr.fit
  have HM := Lib.hid hm
  have HF := Lib.hid hf
  have HL := Lib.hid (And.intro hp0 (And.intro hp1 hl))
  have hN : (s.rest.length : Int) ≤ 1000 := by omega
  clear hb hr hm hf hp0 hp1 hl
  unfold stateV stateC
  go_enter Tryz.func20, Tryz.ntmps20
  go_upto_region 1 with fail
  obtain ⟨g3, w1, hgE, hwE, hbE, hkE⟩ := alloced w #[.int .i64 s.pos, .slice am.o.A0 s.m.o.reg.length am.o.c0, .slice am.o.A1 s.m.o.q.length am.o.c1, .slice am.o.A2 s.m.o.lk.length am.o.c2, .slice am.o.A3 s.m.o.mp.length am.o.c3, .slice am.At s.m.t.length am.ct, .slice Ar s.rest.length cr] 52
  rw [hgE, hwE]
  have HBE := Lib.hid hbE
  have HK3 := Lib.hid hkE
  have HB1 := Lib.hid (HB0.out.below hbE)
  have HR1 := Lib.hid ((HR0.out.below hbE).fit)
  have HRG : Hid (w1.rangeAt g3 1 [.slice am.o.A0 s.m.o.reg.length am.o.c0, .slice am.o.A1 s.m.o.q.length am.o.c1, .slice am.o.A2 s.m.o.lk.length am.o.c2, .slice am.o.A3 s.m.o.mp.length am.o.c3, .slice am.At s.m.t.length am.ct]) := Lib.hid (fun q v hv => by
    rw [hkE.cell]
    match q with
    | 0 => simpa using hv
    | 1 => simpa using hv
    | 2 => simpa using hv
    | 3 => simpa using hv
    | 4 => simpa using hv
    | q + 5 => simp at hv)
  clear hgE hwE hbE hkE
  have HCM := Lib.hid (machineA_any (W := w) HM.out HR1.out.m HBE.out)
  unfold machV machC at HCM
  go_upto_region 2 with (first
    | (refine wpList_load_mid rfl 33 (.tmp 7) rfl g3 1 rfl [.slice am.o.A0 s.m.o.reg.length am.o.c0, .slice am.o.A1 s.m.o.q.length am.o.c1, .slice am.o.A2 s.m.o.lk.length am.o.c2, .slice am.o.A3 s.m.o.mp.length am.o.c3, .slice am.At s.m.t.length am.ct] _ HRG.out Tryz.underlying33 rfl (by kernel_rfl) ?_)
    | (go_at_call 41; refine HCM.out.mono ?_; rintro en w2 ⟨a2, rfl, hom, hbB, hb2⟩
       have HOM := Lib.hid hom
       have HB2 := Lib.hid hbB
       have HBK2 := Lib.hid (HB1.out.below hb2)
       have HK32 := Lib.hid (HK3.out.below hb2)
       have HR2 := Lib.hid ((HR1.out.below hb2).fit)
       obtain ⟨s1, th⟩ := blk_five HBK2.out (.slice a2.o.A0 s.m.o.reg.length a2.o.c0) (.slice a2.o.A1 s.m.o.q.length a2.o.c1) (.slice a2.o.A2 s.m.o.lk.length a2.o.c2) (.slice a2.o.A3 s.m.o.mp.length a2.o.c3) (.slice a2.At s.m.t.length a2.ct)
       have HS1 := Lib.hid s1
       have HTH := Lib.hid th
       clear hom hbB hb2 s1 th)
    | (refine wpList_store_mid rfl 33 (.tmp 11) (.tmp 9) rfl b 0 #[.slice a2.o.A0 s.m.o.reg.length a2.o.c0, .slice a2.o.A1 s.m.o.q.length a2.o.c1, .slice a2.o.A2 s.m.o.lk.length a2.o.c2, .slice a2.o.A3 s.m.o.mp.length a2.o.c3, .slice a2.At s.m.t.length a2.ct] rfl rfl HTH.out (by kernel_rfl) (by kernel_rfl) ?_)
    | fail)
  have hgs := grown_setCells b [.slice a2.o.A0 s.m.o.reg.length a2.o.c0, .slice a2.o.A1 s.m.o.q.length a2.o.c1, .slice a2.o.A2 s.m.o.lk.length a2.o.c2, .slice a2.o.A3 s.m.o.mp.length a2.o.c3, .slice a2.At s.m.t.length a2.ct] 0 w2
  obtain ⟨w3, hw3⟩ : ∃ x, w2.setCells b 0 [.slice a2.o.A0 s.m.o.reg.length a2.o.c0, .slice a2.o.A1 s.m.o.q.length a2.o.c1, .slice a2.o.A2 s.m.o.lk.length a2.o.c2, .slice a2.o.A3 s.m.o.mp.length a2.o.c3, .slice a2.At s.m.t.length a2.ct] = x := ⟨_, rfl⟩
  rw [hw3] at HS1 hgs
  show Code.wp _ _ _ _ (w2.setCells b 0 [.slice a2.o.A0 s.m.o.reg.length a2.o.c0, .slice a2.o.A1 s.m.o.q.length a2.o.c1, .slice a2.o.A2 s.m.o.lk.length a2.o.c2, .slice a2.o.A3 s.m.o.mp.length a2.o.c3, .slice a2.At s.m.t.length a2.ct])
  rw [hw3]
  have kb : Keeps (fun q => q = b) w2 w3 := Keeps.of_grown hgs (fun q e => by injection e with e; exact e.symm)
  have ob : Of (fun q => q = b) [80] w2 := fun q hq _ => by subst hq; exact ⟨_, _, _, HBK2.out, by simp⟩
  have HOM3 := Lib.hid (HOM.out.keeps kb ob (by decide) (by decide) (by decide) (by decide) (by decide))
  have HK33 := Lib.hid (HK32.out.keeps kb (ob.not HK32.out (by decide)))
  have HKP := Lib.hid ((Keeps.of_below HB2.out : Keeps (fun q => q = b) w w2).trans kb (fun q hq _ => hq))
  clear hw3 hgs kb ob HTH HOM HK32 HR2 HBK2 HB2 HCM HRG HB1 HR1 HK3
  have x0 := HK33.out.cell 0
  have x5 := HS1.out.cell 5
  have f5 := HS1.out.frozen 5
  simp at x0 x5
  have hheld : (heldB s.pos : Int) = s.pos := by unfold heldB; have := HL.out; omega
  go_upto_region 3 with (first
    | (go_at_call 44; refine (winNew w3 s.pos).mono ?_; rintro en w4 ⟨gw, rfl, hwin, hgw, hb4⟩
       have HWN := Lib.hid hwin
       have HGW := Lib.hid hgw
       have HB4 := Lib.hid hb4
       have HS4 := Lib.hid (HS1.out.below hb4)
       clear x5 f5
       have x5 := HS4.out.cell 5
       have f5 := HS4.out.frozen 5
       simp at x5
       clear hwin hgw hb4)
    | fail)
  clear x0 x5 f5
  have gs := grown_set w4 b 5 (.pointer (some ⟨gw, 0, none⟩))
  have k5 : Keeps (fun q => q = b) w4 (w4.setCell ⟨b, 5, none⟩ (.pointer (some ⟨gw, 0, none⟩))) := Keeps.of_grown gs (fun q e => by injection e with e; exact e.symm)
  have o5 : Of (fun q => q = b) [80] w4 := fun q hq _ => by subst hq; exact ⟨_, _, _, HS4.out, by simp⟩
  have hnw : ∀ q, winS gw none q → ¬ q = b := by
    rintro q hq rfl
    rcases hq with e1 | ⟨_, _, e1, _⟩
    · exact HS4.out.apart HWN.out.blk (by decide) e1
    · cases e1
  have hbk : BkM (w4.setCell ⟨b, 5, none⟩ (.pointer (some ⟨gw, 0, none⟩))) b a2 gw (heldB s.pos) (heldB s.pos) none 0 0 [] (Bk.loadL s.m s.pos []) := by
    refine ⟨by have q := HS4.out.set_ 5 (.pointer (some ⟨gw, 0, none⟩)); simp at q; exact q, ⟨w, (HOM3.out.below HB4.out).keeps k5 o5 (by decide) (by decide) (by decide) (by decide) (by decide)⟩, HWN.out.keeps k5 o5 (by decide) hnw, rfl, Nat.zero_le _, hheld.symm, by rw [hheld]; show s.pos + 0 = s.pos; omega, fun i => ?_, HM.out, by simp, by unfold heldB; omega⟩
    rw [Bk.loadL_f]
    unfold winAt
    split <;> split <;> simp
  have HBK := Lib.hid hbk
  have HK3b := Lib.hid ((HK33.out.below HB4.out).keeps k5 (o5.not (HK33.out.below HB4.out) (by decide)))
  have HKP2 := Lib.hid ((HKP.out.trans (Keeps.of_below HB4.out : Keeps (fun q => q = b) w3 w4) (fun q hq _ => hq)).trans k5 (fun q hq _ => hq))
  have HGW2 : Hid (w.heap.size ≤ gw) := Lib.hid (Nat.le_trans HKP.out.size HGW.out)
  clear gs k5 o5 hnw hbk hheld HK33 HKP HB4 HS4 HWN HOM3 HS1 HGW
  generalize w4.setCell ⟨b, 5, none⟩ (.pointer (some ⟨gw, 0, none⟩)) = w5 at HBK HK3b HKP2 ⊢
  have x6 := HK3b.out.cell 6
  simp at x6
  go_upto_region 4 with fail
  go_loopw [21] (fun s21 wr => ∃ (j : Nat) (S1 : Nat → Prop), j ≤ s.rest.length ∧ s21 = .int .i64 (j : Int) ∧ Hid (BkAt wr S1 b (Bk.loadL s.m s.pos (s.rest.take j))) ∧ Hid (Keeps (fun q => q = b) w wr) ∧ Hid (∀ q, S1 q → q = b ∨ w.heap.size ≤ q)) (fun s21 _ => s.rest.length - (intOf s21).toNat)
  case atStart =>
    refine ⟨0, bkS b gw none, Nat.zero_le _, rfl, Lib.hid ⟨a2, gw, _, _, none, 0, 0, [], HBK.out, rfl⟩, HKP2, Lib.hid ?_⟩
    rintro q (rfl | rfl | ⟨_, _, e1, _⟩)
    · exact .inl rfl
    · exact .inr HGW2.out
    · cases e1
  case round =>
    clear HBK HK3b HKP2 x6
    obtain ⟨j, S1, hj, rfl, HA, HK, HG⟩ := hrel
    by_cases hlt : j < s.rest.length
    · have hR := (HR0.out.r.keepsB HB0.out HK.out)
      obtain ⟨gb, ob, e, ca, rfl, hel, ⟨y0, y1, y2, y3, y4, y5, y6⟩, hrc⟩ := hR.at hlt
      have hwj : IntKind.i64.wrap ((j : Int) + 1) = (j : Int) + 1 := IntWalk.i64_in _ (by omega)
      have HE := Lib.hid hel
      have HRC := Lib.hid hrc
      have hrg : wr.rangeAt gb (ob + j * 7) [.int .i64 e.s, .int .i64 e.q, .int .i64 e.c.kind, .int .i64 e.c.who, .slice ca.Ak e.c.key.length ca.ck, .slice ca.Av e.c.val.length ca.cv, .slice ca.Ao e.c.old.length ca.co] := fun q v hv => by
        match q with
        | 0 => simp at hv; subst hv; exact y0
        | 1 => simp at hv; subst hv; exact y1
        | 2 => simp at hv; subst hv; exact y2
        | 3 => simp at hv; subst hv; exact y3
        | 4 => simp at hv; subst hv; exact y4
        | 5 => simp at hv; subst hv; exact y5
        | 6 => simp at hv; subst hv; exact y6
        | q + 7 => simp at hv
      have HRG := Lib.hid hrg
      have HFE := Lib.hid (HF.out e (List.mem_of_getElem? hel))
      have hl1 : (s.rest.take j).length = j := by rw [List.length_take]; omega
      have htk : s.rest.take (j + 1) = s.rest.take j ++ [e] := by rw [List.take_add_one, hel]; rfl
      have hmay := Bk.loadL_may s.m s.pos (s.rest.take j)
      have hadd := Bk.loadL_add s.m s.pos (s.rest.take j) e
      rw [hl1] at hmay hadd
      rw [← htk] at hadd
      obtain ⟨i, hi⟩ : ∃ i : Int, s.pos + (j : Int) + 1 = i := ⟨_, rfl⟩
      rw [hi] at hmay hadd
      obtain ⟨kj, hkj⟩ : ∃ kj, Bk.loadL s.m s.pos (s.rest.take j) = kj := ⟨_, rfl⟩
      have hwhj : kj.wh = s.pos + (j : Int) := by rw [← hkj]; show s.pos + ((s.rest.take j).length : Int) = _; rw [hl1]
      have hposj : kj.pos = s.pos := by rw [← hkj]; rfl
      rw [hkj] at HA hmay hadd
      have HAD := Lib.hid (fun wx (ha : BkAt wx S1 b kj) (B : Nat) (hrc : RdC wx B ca e.c) => bkAdd wx ha i hmay hadd HFE.out hrc (by have := HL.out; omega))
      have HWH := Lib.hid (fun wx (ha : BkAt wx S1 b kj) => bkWhole wx ha)
      rw [hwhj] at HWH
      have hwi : IntKind.i64.wrap (s.pos + (j : Int) + 1) = i := by rw [← hi]; exact IntWalk.i64_in _ (by have := HL.out; omega)
      have hjl : (j : Int) < (s.rest.length : Int) := by omega
      have hj0 : (0 : Int) ≤ (j : Int) := by omega
      clear hR hel hrc hrg y0 y1 y2 y3 y4 y5 y6 hl1 htk hmay hadd hkj hwhj hposj hi
      go_upto_region 6 with (first
        | (refine wpList_load_mid rfl 40 (.tmp 23) rfl gb (ob + j * 7) rfl [.int .i64 e.s, .int .i64 e.q, .int .i64 e.c.kind, .int .i64 e.c.who, .slice ca.Ak e.c.key.length ca.ck, .slice ca.Av e.c.val.length ca.cv, .slice ca.Ao e.c.old.length ca.co] _ HRG.out Tryz.underlying40 rfl (by kernel_rfl) ?_)
        | (refine wpList_store_row rfl 40 (.tmp 5) (.tmp 24) rfl wr.heap.size #[.int .i64 e.s, .int .i64 e.q, .int .i64 e.c.kind, .int .i64 e.c.who, .slice ca.Ak e.c.key.length ca.ck, .slice ca.Av e.c.val.length ca.cv, .slice ca.Ao e.c.old.length ca.co] rfl rfl 40 #[.int .i64 0, .int .i64 0, .int .i64 0, .int .i64 0, .slice none 0 0, .slice none 0 0, .slice none 0 0] (Blk.new wr 40 #[.int .i64 0, .int .i64 0, .int .i64 0, .int .i64 0, .slice none 0 0, .slice none 0 0, .slice none 0 0]) (by kernel_rfl) rfl (by kernel_rfl) ?_)
        | fail)
      dsimp only [Act.put]
      obtain ⟨g5, w6, hg5, hw6, hb6, hk6⟩ := boxed wr #[.int .i64 0, .int .i64 0, .int .i64 0, .int .i64 0, .slice none 0 0, .slice none 0 0, .slice none 0 0] #[.int .i64 e.s, .int .i64 e.q, .int .i64 e.c.kind, .int .i64 e.c.who, .slice ca.Ak e.c.key.length ca.ck, .slice ca.Av e.c.val.length ca.cv, .slice ca.Ao e.c.old.length ca.co] 40
      rw [hg5, hw6]
      have hbd : Below wr.heap.size wr w6.drew := hb6.drew
      have hkd : Blk w6.drew g5 40 #[.int .i64 e.s, .int .i64 e.q, .int .i64 e.c.kind, .int .i64 e.c.who, .slice ca.Ak e.c.key.length ca.ck, .slice ca.Av e.c.val.length ca.cv, .slice ca.Ao e.c.old.length ca.co] := hk6.drew
      obtain ⟨w7, hw7⟩ : ∃ w7, w7 = w6.drew := ⟨_, rfl⟩
      rw [← hw7] at hbd hkd
      have HA7 := Lib.hid (HA.out.below hbd)
      have HK7 := Lib.hid hkd
      have HRC7 := Lib.hid (HRC.out.below hbd)
      have HKP7 := Lib.hid (HK.out.trans (Keeps.of_below hbd : Keeps (fun q => q = b) wr w7) (fun q hq _ => hq))
      have HS := Lib.hid (range7 hkd)
      refine wp_region_held_drew (S := fun wq => wq.rangeAt g5 0 [.int .i64 e.s, .int .i64 e.q, .int .i64 e.c.kind, .int .i64 e.c.who, .slice ca.Ak e.c.key.length ca.ck, .slice ca.Av e.c.val.length ca.cv, .slice ca.Ao e.c.old.length ca.co]) (by kernel_rfl) (by rw [← hw7]; exact HS.out) (fun _ => ?_)
      rw [← hw7]
      clear hw7 hbd hkd hg5 hw6 hb6 hk6
      refine wpAnyH_take (i := 0) (v := .pointer (some ⟨b, 0, none⟩)) rfl (by kernel_rfl) (by kernel_rfl) (by kernel_rfl) (fun _ _ _ h => h) (Or.inl ⟨by kernel_rfl, fun w _ => by go_simp⟩) HS.out ?_
      refine wpAnyH_take (i := 1) (v := .pointer (some ⟨b, 0, none⟩)) rfl (by kernel_rfl) (by kernel_rfl) (by kernel_rfl) (fun _ _ _ h => h) (Or.inl ⟨by kernel_rfl, fun w _ => by go_simp⟩) HS.out ?_
      refine wpAnyH_take (i := 4) (v := .agg #[.int .i64 e.s, .int .i64 e.q, .int .i64 e.c.kind, .int .i64 e.c.who, .slice ca.Ak e.c.key.length ca.ck, .slice ca.Av e.c.val.length ca.cv, .slice ca.Ao e.c.old.length ca.co]) rfl (by kernel_rfl) (by kernel_rfl) (by kernel_rfl) (fun _ _ _ h => h) (yieldsIf_load_mid (by kernel_rfl) 40 (.tmp 5) rfl g5 0 rfl [.int .i64 e.s, .int .i64 e.q, .int .i64 e.c.kind, .int .i64 e.c.who, .slice ca.Ak e.c.key.length ca.ck, .slice ca.Av e.c.val.length ca.cv, .slice ca.Ao e.c.old.length ca.co] _ (fun _ h => h) Tryz.underlying40 rfl (by kernel_rfl)) HS.out ?_
      refine wpAnyH_ready (rs := [2]) (by kernel_rfl) (by simp) ?_
      refine AllReadyH.cons rfl (fun K hK => ?_) AllReadyH.nil
      go_simp
      refine (HWH.out w7 HA7.out).mono ?_
      rintro en w8 ⟨rfl, rfl⟩
      go_simp
      refine hK.out _ _ HS.out (fun _ => ?_)
      clear hK K
      refine wpAnyH_take (i := 3) (v := .int .i64 i) rfl (by kernel_rfl) (by kernel_rfl) (by kernel_rfl) (fun _ _ _ h => h) (Or.inl ⟨by kernel_rfl, fun w _ => by go_simp⟩) HS.out ?_
      refine wpAnyH_ready (rs := [5]) (by kernel_rfl) (by simp) ?_
      refine AllReadyH.cons rfl (fun K hK => ?_) AllReadyH.nil
      go_simp
      refine (HAD.out w7 HA7.out _ HRC7.out).mono ?_
      rintro en w8 ⟨rfl, S2, hA2, hV2⟩
      have hk8 := hV2.blk HA7.out.of HK7.out (by decide)
      have hs8 := range7 hk8
      have HA8 := Lib.hid hA2
      have HKP8 := Lib.hid (HKP7.out.trans hV2.keeps (fun q hq hq2 => (HG.out q hq).resolve_right (by omega)))
      have HG8 : Hid (∀ q, S2 q → q = b ∨ w.heap.size ≤ q) := Lib.hid (fun q hq => by
        rcases hV2.grow q hq with h1 | h1
        · exact HG.out q h1
        · exact .inr (Nat.le_trans HKP7.out.size h1))
      clear hA2 hV2 hk8
      go_simp
      refine hK.out _ _ hs8 (fun _ => ?_)
      clear hK K hs8
      refine wpAnyH_done (by kernel_rfl) ?_ _
      go_simp
      go_wp2_with fail
      go_roundw
      case rel => exact ⟨j + 1, S2, by omega, by go_num, HA8, HKP8, HG8⟩
      case measure => simp only [intOf]; omega
    · have hje : j = s.rest.length := by omega
      subst hje
      have hA := HA.out
      rw [List.take_of_length_le (Nat.le_refl _)] at hA
      have HA2 := Lib.hid hA
      clear hA
      go_wp2_with fail
      go_end0
      exact ⟨rfl, S1, HA2.out, HK.out, HG.out⟩
end Go.Proofs.YtaknfmionkkdjaaGreat

namespace Go.Proofs.YtaknfmionkkdjaaGreat
open Go.RowKit
set_option linter.unusedVariables false
theorem Bk.load_zero : Bk.load Sb.zero = Bk.new := by
  unfold Bk.load Bk.new Sb.zero
  congr 1
  funext i
  split <;> rfl
set_option maxHeartbeats 2000000 in
set_option maxRecDepth 100000 in
theorem bkNew (w : World) : Calls Tryz.prog 6 #[] w fun en w' => ∃ b S, en = .returned (.pointer (some ⟨b, 0, none⟩)) ∧ BkAt w' S b Bk.new ∧ Below w.heap.size w w' ∧ ∀ q, S q → w.heap.size ≤ q := by
  go_enter Tryz.func6, Tryz.ntmps6
  go_upto_region 2 with fail
  obtain ⟨g, w1, hgE, hwE, hbE, hkE⟩ := alloced w #[.slice none 0 0, .slice none 0 0, .slice none 0 0, .slice none 0 0, .slice none 0 0, .pointer none] 80
  rw [hgE, hwE]
  have HB := Lib.hid hbE
  have HG := Lib.hid hgE
  have HL := Lib.hid (bkLoadM w1 hkE (a := SA.zero) (s := Sb.zero) (B := w1.heap.size) ⟨RdM.zero _ _, (OwnEs.nil w1 w1).rd⟩ Mc.Ok.zero (by intro e he; cases he) (by decide) (by decide) (by decide))
  rw [Bk.load_zero] at HL
  unfold stateV stateC at HL
  clear hgE hwE hbE hkE
  go_upto_region 3 with (first
    | (go_at_call 20; refine HL.out.mono ?_; rintro en w2 ⟨rfl, S', h2, h3, h4⟩
       have H2 := Lib.hid h2
       have H3 := Lib.hid h3
       have H4 := Lib.hid h4
       clear h2 h3 h4)
    | fail)
  go_wp2_with fail
  go_ret
  refine ⟨g, S', rfl, H2.out, H3.out.below HB.out (fun q hq => by have := HG.out; omega), fun q hq => ?_⟩
  have h1 := HB.out.size
  have h2 := HG.out
  rcases H4.out q hq with h | h <;> omega
end Go.Proofs.YtaknfmionkkdjaaGreat

