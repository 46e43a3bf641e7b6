/- MachRefG MachTellsKit MachC0 MachAwake MachPut CloneKit MachPut2 EntKit -/
import Derived.Test.YtlgpglhbbkikpaaGreatT0H
import Derived.Test.YtlgpglhbbkikpaaGreatT00
import Derived.Test.YtlgpglhbbkikpaaGreatT01
import Derived.Test.YtlgpglhbbkikpaaGreatT03
import Derived.Test.YtlgpglhbbkikpaaGreatT06
import Derived.Test.YtlgpglhbbkikpaaGreatT09
import Derived.Deep.DeepCutAuto
import Derived.Deep.RegionHeld3
import Derived.Deep.RegionLaw
namespace Go.Proofs.YtlgpglhbbkikpaaGreat
open Go.RowKit
set_option linter.unusedVariables false
structure OwnC (W w : World) (a : CA) (c : Cm) : Prop where
 k : OwnB W w a.Ak c.key.length a.ck c.key
 v : OwnB W w a.Av c.val.length a.cv c.val
 o : OwnB W w a.Ao c.old.length a.co c.old
theorem OwnC.rd {W w : World} {a : CA} {c : Cm} (h : OwnC W w a c) : RdC w w.heap.size a c := ⟨Rd.own_ h.k, Rd.own_ h.v, Rd.own_ h.o⟩
structure RdSt (w wx : World) (B b : Nat) (s : Pk.St) : Prop where
 r : RefAt wx B b s
 only : Only b w wx
theorem RdSt.size {w wx : World} {B b : Nat} {s : Pk.St} (h : RdSt w wx B b s) : w.heap.size <= wx.heap.size := h.only.size
theorem RdSt.call {w wx wy : World} {B b : Nat} {s s' : Pk.St} (h : RdSt w wx B b s) (hr : RefAt wy B b s') (ho : Only b wx wy) : RdSt w wy B b s' := ⟨hr, only_trans h.only ho⟩
theorem RdSt.below {w wx wy : World} {B b : Nat} {s : Pk.St} (h : RdSt w wx B b s) (hb : Below wx.heap.size wx wy) : RdSt w wy B b s := ⟨h.r.below hb, only_below h.only hb h.size⟩
theorem RdSt.set {w wx : World} {B b g i : Nat} {s : Pk.St} {u : Value} (h : RdSt w wx B b s) (hb : b < w.heap.size) (hg : w.heap.size <= g) : RdSt w (wx.setCell ⟨g, i, none⟩ u) B b s := by
 refine ⟨h.r.only (only_set (only_refl g wx) i u) ?_ (by omega), only_below h.only ((Below.refl w.heap.size wx).setCell (p := ⟨g, i, none⟩) hg u) lR⟩
 obtain ⟨_, _, _, _, _, _, _, h5, _⟩ := h.r
 omega
theorem own_read {w wx wy : World} {A : Option Addr} {n c b : Nat} {l : List Nat} (h : OwnB w wx A n c l) (ho : Only b wx wy) (hb : b < w.heap.size) : OwnB w wy A n c l := own_old h ho (Old.some hb)
set_option maxHeartbeats 4000000 in
set_option maxRecDepth 100000 in
theorem refGetEntry_any (w : World) (B b : Nat) (s : Pk.St) (h : RefAt w B b s) :
 Calls Tryz.prog 16 #[.pointer (some ⟨b, 0, none⟩)] w fun en w' => ∃ ca, en = .returned (entV ca (En.read s)) /\ OwnC w w' ca (En.read s).c /\ RefAt w' B b (En.get s).2 /\ Only b w w' := by
 have hbl := h.lt
 have HBL := zH hbl
 have h0 : RdSt w w B b s := ⟨h, only_refl b w⟩
 obtain ⟨R, hR⟩ : ∃ R, En.read s = R := ⟨_, rfl⟩
 obtain ⟨S2, hS2⟩ : ∃ x, (En.get s).2 = x := ⟨_, rfl⟩
 rw [hR, hS2]
 have HRR := zH hR
 have HSS := zH hS2
 clear hR hS2
 have HR0 := zH (h0.below ((Below.refl w.heap.size w).alloc lR (.cells #[.int .i64 0, .int .i64 0, .int .i64 0, .int .i64 0, .slice none 0 0, .slice none 0 0, .slice none 0 0] 29)))
 have HK2 := zH (Blk.new w 29 #[.int .i64 0, .int .i64 0, .int .i64 0, .int .i64 0, .slice none 0 0, .slice none 0 0, .slice none 0 0])
 clear h h0
 go_enter Tryz.func16, Tryz.ntmps16
 go_upto_region 1 with fail
 generalize w.alloc (.cells #[.int .i64 0, .int .i64 0, .int .i64 0, .int .i64 0, .slice none 0 0, .slice none 0 0, .slice none 0 0] 29) = wa at HR0 HK2 |-
 have hne : w.heap.size ≠ b := by omega
 obtain ⟨s1, e1⟩ : ∃ x, Pk.numS s 1073741824 = x := ⟨_, rfl⟩
 obtain ⟨s2, e2⟩ : ∃ x, Pk.numS s1 1073741824 = x := ⟨_, rfl⟩
 obtain ⟨s3, e3⟩ : ∃ x, Pk.numS s2 1073741824 = x := ⟨_, rfl⟩
 obtain ⟨s4, e4⟩ : ∃ x, Pk.numS s3 1073741824 = x := ⟨_, rfl⟩
 obtain ⟨s5, e5⟩ : ∃ x, Pk.bytS s4 32 = x := ⟨_, rfl⟩
 obtain ⟨s6, e6⟩ : ∃ x, Pk.bytS s5 32 = x := ⟨_, rfl⟩
 obtain ⟨s7, e7⟩ : ∃ x, Pk.bytS s6 32 = x := ⟨_, rfl⟩
 obtain ⟨n0, d0⟩ : ∃ x, Pk.numV s 1073741824 = x := ⟨_, rfl⟩
 obtain ⟨n1, d1⟩ : ∃ x, Pk.numV s1 1073741824 = x := ⟨_, rfl⟩
 obtain ⟨n2, d2⟩ : ∃ x, Pk.numV s2 1073741824 = x := ⟨_, rfl⟩
 obtain ⟨n3, d3⟩ : ∃ x, Pk.numV s3 1073741824 = x := ⟨_, rfl⟩
 obtain ⟨v4, d4⟩ : ∃ x, Pk.bytV s4 32 = x := ⟨_, rfl⟩
 obtain ⟨v5, d5⟩ : ∃ x, Pk.bytV s5 32 = x := ⟨_, rfl⟩
 obtain ⟨v6, d6⟩ : ∃ x, Pk.bytV s6 32 = x := ⟨_, rfl⟩
 have HEV : Hid (En.get s = (⟨n0, n1, ⟨n2, n3, v4, v5, v6⟩⟩, s7)) := zH (by
  unfold En.get
  simp only [e1, e2, e3, e4, e5, e6, e7, d0, d1, d2, d3, d4, d5, d6])
 have C0 := zH (fun w h => refrnum_any w B b s 1073741824 h)
 have C1 := zH (fun w h => refrnum_any w B b s1 1073741824 h)
 have C2 := zH (fun w h => refrnum_any w B b s2 1073741824 h)
 have C3 := zH (fun w h => refrnum_any w B b s3 1073741824 h)
 have C4 := zH (fun w h => refrbytes_any w B b s4 32 h)
 have C5 := zH (fun w h => refrbytes_any w B b s5 32 h)
 have C6 := zH (fun w h => refrbytes_any w B b s6 32 h)
 rw [e1, d0] at C0
 rw [e2, d1] at C1
 rw [e3, d2] at C2
 rw [e4, d3] at C3
 rw [e5, d4] at C4
 rw [e6, d5] at C5
 rw [e7, d6] at C6
 clear e1 e2 e3 e4 e5 e6 e7 d0 d1 d2 d3 d4 d5 d6
 go_upto_region 2 with (first
  | (go_at_call 45; refine (C0.out _ HR0.out.r).mono ?_; rintro en w1 ⟨rfl, hr, ho, hz⟩; have HR1 := zH (HR0.out.call hr ho); have HK2 := zH (HK2.out.grown ho (by simpa using hne)); clear hr ho hz C0)
  | (go_at_call 45; refine (C1.out _ HR1.out.r).mono ?_; rintro en w2 ⟨rfl, hr, ho, hz⟩; have hn23 : w.heap.size < w2.heap.size := (HK2.out.grown ho (by simpa using hne)).lt; have HR2 := zH ((HR1.out.call hr ho).below ((Below.refl w2.heap.size w2).alloc lR (.cells #[.int .i64 (n0 : Int), .int .i64 (n1 : Int), .int .i64 0, .int .i64 0, .slice none 0 0, .slice none 0 0, .slice none 0 0] 29))); have HK2 := zH ((HK2.out.grown ho (by simpa using hne)).alloc (.cells #[.int .i64 (n0 : Int), .int .i64 (n1 : Int), .int .i64 0, .int .i64 0, .slice none 0 0, .slice none 0 0, .slice none 0 0] 29)); have HK3 := zH (Blk.new w2 29 #[.int .i64 (n0 : Int), .int .i64 (n1 : Int), .int .i64 0, .int .i64 0, .slice none 0 0, .slice none 0 0, .slice none 0 0]); have HS3 := zH (show w.heap.size <= w2.heap.size from (HR1.out.call hr ho).size); clear hr ho hz C1)
  | fail)
 generalize w2.alloc (.cells #[.int .i64 (n0 : Int), .int .i64 (n1 : Int), .int .i64 0, .int .i64 0, .slice none 0 0, .slice none 0 0, .slice none 0 0] 29) = wb at HR2 HK2 HK3 |-
 have hne3 : w2.heap.size ≠ b := by omega
 go_upto_region 3 with (first
  | (go_at_call 45; refine (C2.out _ HR2.out.r).mono ?_; rintro en w3 ⟨rfl, hr, ho, hz⟩; have HR3 := zH (HR2.out.call hr ho); have HK2 := zH (HK2.out.grown ho (by simpa using hne)); have HK3 := zH (HK3.out.grown ho (by simpa using hne3)); clear hr ho hz C2)
  | (go_at_call 45; refine (C3.out _ HR3.out.r).mono ?_; rintro en w4 ⟨rfl, hr, ho, hz⟩; have HR4 := zH (HR3.out.call hr ho); have HK2 := zH (HK2.out.grown ho (by simpa using hne)); have HK3 := zH (HK3.out.grown ho (by simpa using hne3)); clear hr ho hz C3; obtain ⟨x0, x1, x2, x3, x4, x5, x6⟩ := seven HK3.out; have f2 := HK3.out.frozen 2; have f3 := HK3.out.frozen 3)
  | fail)
 have HR5 := zH ((HR4.out.set (i := 2) (u := .int .i64 (n2 : Int)) hbl HS3.out).set (i := 3) (u := .int .i64 (n3 : Int)) hbl HS3.out)
 have HK2 := zH ((HK2.out.set_other (i := 2) (u := .int .i64 (n2 : Int)) (b := w2.heap.size) (by omega)).set_other (i := 3) (u := .int .i64 (n3 : Int)) (b := w2.heap.size) (by omega))
 have HK3 : Hid (Blk ((w4.setCell ⟨w2.heap.size, 2, none⟩ (.int .i64 (n2 : Int))).setCell ⟨w2.heap.size, 3, none⟩ (.int .i64 (n3 : Int))) w2.heap.size 29 #[.int .i64 (n0 : Int), .int .i64 (n1 : Int), .int .i64 (n2 : Int), .int .i64 (n3 : Int), .slice none 0 0, .slice none 0 0, .slice none 0 0]) := zH ((HK3.out.set_ 2 (.int .i64 (n2 : Int))).set_ 3 (.int .i64 (n3 : Int)))
 clear x0 x1 x2 x3 x4 x5 x6 f2 f3 HR4
 generalize (w4.setCell ⟨w2.heap.size, 2, none⟩ (.int .i64 (n2 : Int))).setCell ⟨w2.heap.size, 3, none⟩ (.int .i64 (n3 : Int)) = wc at HR5 HK2 HK3 |-
 go_upto_region 4 with (first
  | (go_at_call 46; refine (C4.out _ HR5.out.r).mono ?_; rintro en w5 ⟨A4, m4, c4, rfl, hv, hr, ho⟩; obtain rfl := own_len hv; have hv := own_of HR5.out.size hv; have HR6 := zH (HR5.out.call hr ho); have HK2 := zH (HK2.out.grown ho (by simpa using hne)); have HK3 := zH (HK3.out.grown ho (by simpa using hne3)); have HV4 := zH hv; clear hv hr ho C4)
  | (go_at_call 46; refine (C5.out _ HR6.out.r).mono ?_; rintro en w6 ⟨A5, m5, c5, rfl, hv, hr, ho⟩; obtain rfl := own_len hv; have hv := own_of HR6.out.size hv; have HR7 := zH (HR6.out.call hr ho); have HK2 := zH (HK2.out.grown ho (by simpa using hne)); have HK3 := zH (HK3.out.grown ho (by simpa using hne3)); have HV4 := zH (own_read HV4.out ho HBL.out); have HV5 := zH hv; clear hv hr ho C5)
  | (go_at_call 46; refine (C6.out _ HR7.out.r).mono ?_; rintro en w7 ⟨A6, m6, c6, rfl, hv, hr, ho⟩; obtain rfl := own_len hv; have hv := own_of HR7.out.size hv; have HR8 := zH (HR7.out.call hr ho); have HK2 := zH (HK2.out.grown ho (by simpa using hne)); have HK3 := zH (HK3.out.grown ho (by simpa using hne3)); have HV4 := zH (own_read HV4.out ho HBL.out); have HV5 := zH (own_read HV5.out ho HBL.out); have HV6 := zH hv; clear hv hr ho C6; obtain ⟨x0, x1, x2, x3, x4, x5, x6⟩ := seven HK3.out; have f4 := HK3.out.frozen 4; have f5 := HK3.out.frozen 5; have f6 := HK3.out.frozen 6)
  | fail)
 have HR9 := zH (((HR8.out.set (i := 4) (u := .slice A4 v4.length c4) hbl HS3.out).set (i := 5) (u := .slice A5 v5.length c5) hbl HS3.out).set (i := 6) (u := .slice A6 v6.length c6) hbl HS3.out)
 have HK2 := zH (((HK2.out.set_other (i := 4) (u := .slice A4 v4.length c4) (b := w2.heap.size) (by omega)).set_other (i := 5) (u := .slice A5 v5.length c5) (b := w2.heap.size) (by omega)).set_other (i := 6) (u := .slice A6 v6.length c6) (b := w2.heap.size) (by omega))
 have k1 := HK3.out
 have k2 := k1.set_ 4 (.slice A4 v4.length c4)
 have k3 := k2.set_ 5 (.slice A5 v5.length c5)
 have hset : ∀ {A : Option Addr} {n c : Nat} {l : List Nat}, OwnB w w7 A n c l -> OwnB w (((w7.setCell ⟨w2.heap.size, 4, none⟩ (.slice A4 v4.length c4)).setCell ⟨w2.heap.size, 5, none⟩ (.slice A5 v5.length c5)).setCell ⟨w2.heap.size, 6, none⟩ (.slice A6 v6.length c6)) A n c l := fun h => own_set_t (own_set_t (own_set_t h k1 (by decide)) k2 (by decide)) k3 (by decide)
 have HOC : Hid (OwnC w (((w7.setCell ⟨w2.heap.size, 4, none⟩ (.slice A4 v4.length c4)).setCell ⟨w2.heap.size, 5, none⟩ (.slice A5 v5.length c5)).setCell ⟨w2.heap.size, 6, none⟩ (.slice A6 v6.length c6)) ⟨A4, c4, A5, c5, A6, c6⟩ ⟨n2, n3, v4, v5, v6⟩) := zH ⟨hset HV4.out, hset HV5.out, hset HV6.out⟩
 have HK3 : Hid (Blk (((w7.setCell ⟨w2.heap.size, 4, none⟩ (.slice A4 v4.length c4)).setCell ⟨w2.heap.size, 5, none⟩ (.slice A5 v5.length c5)).setCell ⟨w2.heap.size, 6, none⟩ (.slice A6 v6.length c6)) w2.heap.size 29 #[.int .i64 (n0 : Int), .int .i64 (n1 : Int), .int .i64 (n2 : Int), .int .i64 (n3 : Int), .slice A4 v4.length c4, .slice A5 v5.length c5, .slice A6 v6.length c6]) := zH (k3.set_ 6 (.slice A6 v6.length c6))
 clear x0 x1 x2 x3 x4 x5 x6 f4 f5 f6 HR8 HV4 HV5 HV6 k1 k2 k3 hset
 generalize ((w7.setCell ⟨w2.heap.size, 4, none⟩ (.slice A4 v4.length c4)).setCell ⟨w2.heap.size, 5, none⟩ (.slice A5 v5.length c5)).setCell ⟨w2.heap.size, 6, none⟩ (.slice A6 v6.length c6) = wd at HR9 HK2 HK3 HOC |-
 obtain ⟨Ar, nr, cr, hblk, _, _, _, _, _⟩ := HR9.out.r
 have hbad : wd.cell? ⟨b, 1, none⟩ = some (.bool s7.isNone) := hblk.cell 1
 obtain ⟨x0, x1, x2, x3, x4, x5, x6⟩ := seven HK2.out
 obtain ⟨y0, y1, y2, y3, y4, y5, y6⟩ := seven HK3.out
 have f0 := HK2.out.frozen 0
 have f1 := HK2.out.frozen 1
 have f2 := HK2.out.frozen 2
 have f3 := HK2.out.frozen 3
 have f4 := HK2.out.frozen 4
 have f5 := HK2.out.frozen 5
 have f6 := HK2.out.frozen 6
 have hfin : ∀ (a : CA) (e : En), OwnC w wd a e.c -> let wy := (((((((wd.setCell ⟨w.heap.size, 0, none⟩ (.int .i64 e.s)).setCell ⟨w.heap.size, 1, none⟩ (.int .i64 e.q)).setCell ⟨w.heap.size, 2, none⟩ (.int .i64 e.c.kind)).setCell ⟨w.heap.size, 3, none⟩ (.int .i64 e.c.who)).setCell ⟨w.heap.size, 4, none⟩ (.slice a.Ak e.c.key.length a.ck)).setCell ⟨w.heap.size, 5, none⟩ (.slice a.Av e.c.val.length a.cv)).setCell ⟨w.heap.size, 6, none⟩ (.slice a.Ao e.c.old.length a.co)); Blk wy w.heap.size 29 (entC a e) /\ OwnC w wy a e.c /\ RdSt w wy B b s7 := by
  intro a e hoc
  simp only
  have q0 := HK2.out
  have q1 := q0.set_ 0 (.int .i64 e.s)
  have q2 := q1.set_ 1 (.int .i64 e.q)
  have q3 := q2.set_ 2 (.int .i64 e.c.kind)
  have q4 := q3.set_ 3 (.int .i64 e.c.who)
  have q5 := q4.set_ 4 (.slice a.Ak e.c.key.length a.ck)
  have q6 := q5.set_ 5 (.slice a.Av e.c.val.length a.cv)
  have q7 := q6.set_ 6 (.slice a.Ao e.c.old.length a.co)
  have hq : ∀ {A : Option Addr} {n c : Nat} {l : List Nat}, OwnB w wd A n c l -> OwnB w (((((((wd.setCell ⟨w.heap.size, 0, none⟩ (.int .i64 e.s)).setCell ⟨w.heap.size, 1, none⟩ (.int .i64 e.q)).setCell ⟨w.heap.size, 2, none⟩ (.int .i64 e.c.kind)).setCell ⟨w.heap.size, 3, none⟩ (.int .i64 e.c.who)).setCell ⟨w.heap.size, 4, none⟩ (.slice a.Ak e.c.key.length a.ck)).setCell ⟨w.heap.size, 5, none⟩ (.slice a.Av e.c.val.length a.cv)).setCell ⟨w.heap.size, 6, none⟩ (.slice a.Ao e.c.old.length a.co)) A n c l := fun h =>
   own_set_t (own_set_t (own_set_t (own_set_t (own_set_t (own_set_t (own_set_t h q0 (by decide)) q1 (by decide)) q2 (by decide)) q3 (by decide)) q4 (by decide)) q5 (by decide)) q6 (by decide)
  have hl := Nat.le_refl w.heap.size
  have hbl := HBL.out
  exact ⟨q7, ⟨hq hoc.k, hq hoc.v, hq hoc.o⟩, ((((((HR9.out.set hbl hl).set hbl hl).set hbl hl).set hbl hl).set hbl hl).set hbl hl).set hbl hl⟩
 have HFIN := zH hfin
 clear hfin hblk
 cases s7 with
 | none =>
   simp only [Option.isNone_none] at hbad
   go_wp2_with fail
   obtain ⟨p1, p2, p3⟩ := HFIN.out ⟨none, 0, none, 0, none, 0⟩ En.zero ⟨own_nil _ _, own_nil _ _, own_nil _ _⟩
   refine bodyPost_ret (results_cell_row rfl _ _ _ _ _ _ _ rfl p1 Tryz.underlying29 rfl (by kernel_rfl)) rfl ?_
   have hR : R = En.zero := by rw [<- HRR.out]; unfold En.read; rw [HEV.out, if_pos rfl]
   have hS : S2 = none := by rw [<- HSS.out, HEV.out]
   subst hR hS
   exact ⟨_, rfl, p2, p3.r, p3.only⟩
 | some l7 =>
   simp only [Option.isNone_some] at hbad
   go_wp2_with fail
   obtain ⟨p1, p2, p3⟩ := HFIN.out ⟨A4, c4, A5, c5, A6, c6⟩ ⟨n0, n1, ⟨n2, n3, v4, v5, v6⟩⟩ HOC.out
   refine bodyPost_ret (results_cell_row rfl _ _ _ _ _ _ _ rfl p1 Tryz.underlying29 rfl (by kernel_rfl)) rfl ?_
   have hR : R = ⟨n0, n1, ⟨n2, n3, v4, v5, v6⟩⟩ := by rw [<- HRR.out]; unfold En.read; rw [HEV.out, if_neg (by simp)]
   have hS : S2 = some l7 := by rw [<- HSS.out, HEV.out]
   subst hR hS
   exact ⟨_, rfl, p2, p3.r, p3.only⟩
structure Two10 (w0 wx : World) (g : Nat) (a a' : MA) (M : Mc) : Prop where
 k1 : Blk wx g 36 (machC a M)
 k2 : Blk wx (g + 1) 36 (machC a' M)
 o1 : OwnM w0 wx a M
 o2 : OwnM w0 wx a' M
 bel : Below w0.heap.size w0 wx
section
variable {w0 wx wy : World} {g : Nat} {a a' : MA} {M : Mc}
theorem Two10.below (h : Two10 w0 wx g a a' M) (hb : Below wx.heap.size wx wy) : Two10 w0 wy g a a' M := ⟨h.k1.below hb, h.k2.below hb, h.o1.below hb, h.o2.below hb, h.bel.trans (hb.mono h.bel.size)⟩
theorem Two10.set {b i : Nat} {t : TypeId} {u : Value} {cs : Array Value} (h : Two10 w0 wx g a a' M) (hb : Blk wx b t cs) (hw : w0.heap.size <= b) (h0 : 36 ≠ t) (h1 : 5 ≠ t) (h2 : 24 ≠ t) (h3 : 3 ≠ t) (h4 : 81 ≠ t) (h5 : 71 ≠ t) :
 Two10 w0 (wx.setCell ⟨b, i, none⟩ u) g a a' M :=
 ⟨h.k1.set_other (h.k1.apart hb h0), h.k2.set_other (h.k2.apart hb h0), h.o1.set_t hb h1 h2 h3 h4 h5, h.o2.set_t hb h1 h2 h3 h4 h5, h.bel.setCell (p := ⟨b, i, none⟩) hw u⟩
end
structure EntV (wx : World) (h : Nat) (ca : CA) (e : En) : Prop where
 k : Blk wx h 29 (entC ca e)
 r : RdC wx wx.heap.size ca e.c
theorem EntV.below {wx wy : World} {h : Nat} {ca : CA} {e : En} (H : EntV wx h ca e) (hb : Below wx.heap.size wx wy) : EntV wy h ca e := ⟨H.k.below hb, H.r.below' hb⟩
theorem own_only_t {w w' : World} {base size n b : Nat} {e t : TypeId} {v : Value} {xs : List Value} {cs : Array Value} (h : w.ownsRow base e size v n xs) (hb : Blk w b t cs) (hne : e ≠ t) (hg : w.grownBy w' (some b)) : w'.ownsRow base e size v n xs := by
 refine h.kept hg ?_
 rcases h.2 with ⟨h1, _⟩ | ⟨g, cap, cur, h1, _, hh, _⟩
 · rw [h1]; exact .inl rfl
 · rw [h1]
   refine .inr ?_
   show some g ≠ some b
   intro h0
   injection h0 with h0
   exact Blk.apart hh hb hne h0
section
variable {W w w' : World} {b : Nat} {t : TypeId} {cs : Array Value}
theorem Owns.onlyT {vs : List Value} {qs : List (List Nat)} (h : Owns W w vs qs) (hb : Blk w b t cs) (h1 : 5 ≠ t) (hg : w.grownBy w' (some b)) : Owns W w' vs qs :=
 ⟨h.len, fun i l hl => by obtain ⟨A, c, e, hq⟩ := h.cell i l hl; exact ⟨A, c, e, own_only_t hq hb h1 hg⟩⟩
theorem OwnM.onlyT {a : MA} {m : Mc} (h : OwnM W w a m) (hb : Blk w b t cs) (h1 : 5 ≠ t) (h2 : 24 ≠ t) (h3 : 3 ≠ t) (h4 : 81 ≠ t) (h5 : 71 ≠ t) (hg : w.grownBy w' (some b)) : OwnM W w' a m := by
 refine ⟨⟨own_only_t h.o.o0 hb h1 hg, ?_, own_only_t h.o.o2 hb h3 hg, ?_⟩, ?_⟩
 · obtain ⟨vs, q1, q2⟩ := h.o.o1
   exact ⟨vs, own_only_t q1 hb h2 hg, q2.onlyT hb h1 hg⟩
 · obtain ⟨vs, q1, q2⟩ := h.o.o3
   exact ⟨vs, own_only_t q1 hb h4 hg, q2.onlyT hb h1 hg⟩
 · obtain ⟨vs, q1, q2⟩ := h.t
   exact ⟨vs, own_only_t q1 hb h5 hg, q2.imp fun _ _ _ h => own_only_t h hb h1 hg⟩
end
theorem Two10.onlyT {w0 wx wy : World} {g b : Nat} {a a' : MA} {M : Mc} {t : TypeId} {cs : Array Value} (h : Two10 w0 wx g a a' M) (hb : Blk wx b t cs) (hw : w0.heap.size <= b) (h0 : 36 ≠ t) (h1 : 5 ≠ t) (h2 : 24 ≠ t) (h3 : 3 ≠ t) (h4 : 81 ≠ t) (h5 : 71 ≠ t)
 (hg : wx.grownBy wy (some b)) : Two10 w0 wy g a a' M := by
 have n1 : g ≠ b := h.k1.apart hb h0
 have n2 : g + 1 ≠ b := h.k2.apart hb h0
 exact ⟨h.k1.grown hg (by simpa using n1), h.k2.grown hg (by simpa using n2), h.o1.onlyT hb h1 h2 h3 h4 h5 hg, h.o2.onlyT hb h1 h2 h3 h4 h5 hg, h.bel.grown hg h.bel.size (fun k hk => by injection hk with hk; omega)⟩
theorem noByte_mc (A0 A1 A2 A3 A4 : Option Addr) (n0 n1 n2 n3 n4 c0 c1 c2 c3 c4 : Nat) : NoByte #[.slice A0 n0 c0, .slice A1 n1 c1, .slice A2 n2 c2, .slice A3 n3 c3, .slice A4 n4 c4] := by
 intro j x h
 match j with
 | 0 => simp at h
 | 1 => simp at h
 | 2 => simp at h
 | 3 => simp at h
 | 4 => simp at h
 | j + 5 => simp at h
theorem EntV.put5 {wx : World} {h b : Nat} {ca : CA} {e : En} {A0 A1 A2 A3 A4 : Option Addr} {n0 n1 n2 n3 n4 c0 c1 c2 c3 c4 : Nat} (H : EntV wx h ca e) (hk : Blk wx b 36 #[.slice A0 n0 c0, .slice A1 n1 c1, .slice A2 n2 c2, .slice A3 n3 c3, .slice A4 n4 c4])
 (B0 B1 B2 B3 B4 : Option Addr) (m0 m1 m2 m3 m4 d0 d1 d2 d3 d4 : Nat) :
 EntV (((((wx.setCell ⟨b, 0, none⟩ (.slice B0 m0 d0)).setCell ⟨b, 1, none⟩ (.slice B1 m1 d1)).setCell ⟨b, 2, none⟩ (.slice B2 m2 d2)).setCell ⟨b, 3, none⟩ (.slice B3 m3 d3)).setCell ⟨b, 4, none⟩ (.slice B4 m4 d4)) h ca e := by
 have hne : h ≠ b := fun e' => (hk.apart H.k (by decide)) e'.symm
 refine ⟨((((H.k.set_other hne).set_other hne).set_other hne).set_other hne).set_other hne, ?_⟩
 have k0 := noByte_mc A0 A1 A2 A3 A4 n0 n1 n2 n3 n4 c0 c1 c2 c3 c4
 have b1 := hk.set_ 0 (.slice B0 m0 d0); have k1 := k0.set 0 (noSlice B0 m0 d0)
 have b2 := b1.set_ 1 (.slice B1 m1 d1); have k2 := k1.set 1 (noSlice B1 m1 d1)
 have b3 := b2.set_ 2 (.slice B2 m2 d2); have k3 := k2.set 2 (noSlice B2 m2 d2)
 have b4 := b3.set_ 3 (.slice B3 m3 d3); have k4 := k3.set 3 (noSlice B3 m3 d3)
 exact ((((H.r.setK (i := 0) (u := .slice B0 m0 d0) hk k0).setK (i := 1) (u := .slice B1 m1 d1) b1 k1).setK (i := 2) (u := .slice B2 m2 d2) b2 k2).setK (i := 3) (u := .slice B3 m3 d3) b3 k3).setK (i := 4) (u := .slice B4 m4 d4) b4 k4
def fiveM (w : World) (b : Nat) (a : MA) (m : Mc) : World :=
 ((((w.setCell ⟨b, 0, none⟩ (.slice a.o.A0 m.o.reg.length a.o.c0)).setCell ⟨b, 1, none⟩ (.slice a.o.A1 m.o.q.length a.o.c1)).setCell ⟨b, 2, none⟩ (.slice a.o.A2 m.o.lk.length a.o.c2)).setCell ⟨b, 3, none⟩ (.slice a.o.A3 m.o.mp.length a.o.c3)).setCell ⟨b, 4, none⟩ (.slice a.At m.t.length a.ct)
theorem Two10.turn {w0 wx : World} {g h : Nat} {a a' a3 a4 : MA} {M M' : Mc} {ca : CA} {e : En} (H : Two10 w0 wx g a a' M) (HE : EntV wx h ca e) (hg : w0.heap.size <= g) (o3 : OwnM w0 wx a3 M') (o4 : OwnM w0 wx a4 M') :
 (∀ b t cs, b ≠ g -> Blk wx b t cs -> Blk (fiveM wx g a3 M') b t cs) /\ (∀ b t cs, b ≠ g -> b ≠ g + 1 -> Blk wx b t cs -> Blk (fiveM (fiveM wx g a3 M') (g + 1) a4 M') b t cs) ∧
 Two10 w0 (fiveM (fiveM wx g a3 M') (g + 1) a4 M') g a3 a4 M' /\ EntV (fiveM (fiveM wx g a3 M') (g + 1) a4 M') h ca e := by
 have q1 := H.k1
 have q2 := H.k2
 unfold machC at q1 q2
 obtain ⟨k1, k2, k3, k4, k5⟩ := put5 q1 (.slice a3.o.A0 M'.o.reg.length a3.o.c0) (.slice a3.o.A1 M'.o.q.length a3.o.c1) (.slice a3.o.A2 M'.o.lk.length a3.o.c2) (.slice a3.o.A3 M'.o.mp.length a3.o.c3) (.slice a3.At M'.t.length a3.ct)
 have e1 := HE.put5 q1 a3.o.A0 a3.o.A1 a3.o.A2 a3.o.A3 a3.At M'.o.reg.length M'.o.q.length M'.o.lk.length M'.o.mp.length M'.t.length a3.o.c0 a3.o.c1 a3.o.c2 a3.o.c3 a3.ct
 have q3 := k5 (g + 1) _ _ (by omega) q2
 obtain ⟨l1, l2, l3, l4, l5⟩ := put5 q3 (.slice a4.o.A0 M'.o.reg.length a4.o.c0) (.slice a4.o.A1 M'.o.q.length a4.o.c1) (.slice a4.o.A2 M'.o.lk.length a4.o.c2) (.slice a4.o.A3 M'.o.mp.length a4.o.c3) (.slice a4.At M'.t.length a4.ct)
 have e2 := e1.put5 q3 a4.o.A0 a4.o.A1 a4.o.A2 a4.o.A3 a4.At M'.o.reg.length M'.o.q.length M'.o.lk.length M'.o.mp.length M'.t.length a4.o.c0 a4.o.c1 a4.o.c2 a4.o.c3 a4.ct
 exact ⟨fun b t cs hb h => k5 b t cs hb h, fun b t cs hb hb' h => l5 b t cs hb' (k5 b t cs hb h),
  ⟨l5 g _ _ (by omega) k1, l1, l3 _ _ _ (k3 _ _ _ o3 (by decide) (by decide) (by decide) (by decide) (by decide)) (by decide) (by decide) (by decide) (by decide) (by decide), l3 _ _ _ (k3 _ _ _ o4 (by decide) (by decide) (by decide) (by decide) (by decide)) (by decide) (by decide) (by decide) (by decide) (by decide), l2 w0 (by omega) (k2 w0 hg H.bel)⟩, e2⟩
theorem OwnC.onlyT {W w w' : World} {b : Nat} {t : TypeId} {cs : Array Value} {a : CA} {c : Cm} (h : OwnC W w a c) (hb : Blk w b t cs) (h1 : 5 ≠ t) (hg : w.grownBy w' (some b)) : OwnC W w' a c :=
 ⟨own_only_t h.k hb h1 hg, own_only_t h.v hb h1 hg, own_only_t h.o hb h1 hg⟩
theorem refAt_blk {w : World} {B b : Nat} {s : Pk.St} (h : RefAt w B b s) : ∃ cs, Blk w b 49 cs := by
 obtain ⟨A, n, c, h1, _⟩ := h
 exact ⟨_, h1⟩
theorem refAt_flag {w : World} {B b : Nat} {s : Pk.St} (h : RefAt w B b s) : w.cell? ⟨b, 1, none⟩ = some (.bool s.isNone) := by
 obtain ⟨A, n, c, h1, _⟩ := h
 exact h1.cell 1
theorem Mc.enc_pos (m : Mc) : 0 < m.enc.length := by
 have h1 := (Pk.enc_length m.o.reg.length).1
 unfold Mc.enc Pk.encB
 simp only [List.length_append]
 omega
theorem step_append_BN {P : Program} {t e : TypeId} {z : Value} {bytes : Nat} {W w : World} (hT : CellT P t e z bytes) {ops : Array Oper} {o : Oper} {a : Act} {K : Act -> World -> Prop} {Q : Exit -> Act -> World -> Prop} {E : Prop} (s x : Operand)
 (ho : o.op = .call { callee := .builtin .append, args := #[s, x], argTypes := #[t, t] }) (hg : o.guard = none)
 {A : Option Addr} {n c : Nat} {vs : List Value} (hs : a.eval s = .slice A n c) (hown : w.ownsRow W.heap.size e 1 (.slice A n c) n vs)
 {B : Nat} {A' : Option Addr} {m c' : Nat} {ws : List Value} (hx : a.eval x = .slice A' m c') (hr : Rd w B A' m ws) (h1 : ∀ u ∈ ws, u.oneCell' = true) {N : Nat} (hN : n + m = N) (hnm : N <= 1099511627776) (hby : bytes <= 64) (hB : Below W.heap.size W w)
 (h : ∀ A2 c2 w2, w2.ownsRow W.heap.size e 1 (.slice A2 N c2) N (vs ++ ws) -> Below W.heap.size W w2 -> w.grownBy w2 (Value.slice A n c).ownBlock -> K (a.put o.dst (.slice A2 N c2)) w2) :
 if Region.wanted o (yielded ops a.tmps) = true then Oper.wp P o a w K Q else E := by
 subst hN
 exact step_append_cells hT s x ho hg hs hown hx hr h1 hnm hby hB h
theorem bytesSt_some {l : List Nat} (h : ∀ x ∈ l, x < 256) : BytesSt (some l) := fun l2 h2 => by
 obtain rfl : l = l2 := by injection h2
 exact h
theorem En.enc_len {e : En} (h : e.c.Fits) : e.enc.length <= 400 := by
 have h1 := encB_length e.c.key
 have h2 := encB_length e.c.val
 have h3 := encB_length e.c.old
 have k1 := (Pk.enc_length (Pk.held e.s)).2
 have k2 := (Pk.enc_length (Pk.held e.q)).2
 have k3 := (Pk.enc_length (Pk.held e.c.kind)).2
 have k4 := (Pk.enc_length (Pk.held e.c.who)).2
 have q1 := h.key.1
 have q2 := h.val.1
 have q3 := h.old.1
 unfold En.enc
 simp only [List.length_append]
 omega
theorem En.enc_lt256 {e : En} (h : e.c.Fits) : ∀ x ∈ e.enc, x < 256 := by
 have hb : ∀ {l : List Nat}, l.length <= 100 -> (∀ y ∈ l, y < 256) -> ∀ x ∈ Pk.encB l, x < 256 := fun h1 h2 => Pk.encB_lt h2 (by unfold Pk.top; omega)
 intro x hx
 unfold En.enc at hx
 simp only [List.mem_append] at hx
 rcases hx with h1 | h1 | h1 | h1 | h1 | h1 | h1
 · exact Pk.enc_lt (Pk.held_le _) x h1
 · exact Pk.enc_lt (Pk.held_le _) x h1
 · exact Pk.enc_lt (Pk.held_le _) x h1
 · exact Pk.enc_lt (Pk.held_le _) x h1
 · exact hb h.key.1 h.key.2 x h1
 · exact hb h.val.1 h.val.2 x h1
 · exact hb h.old.1 h.old.2 x h1
theorem Ls.eq_iff (a b : Ls) : a = b ↔ a.s = b.s /\ a.q = b.q /\ a.e = b.e /\ a.v = b.v /\ a.n = b.n := by
 constructor
 · rintro rfl; exact ⟨rfl, rfl, rfl, rfl, rfl⟩
 · rintro ⟨h1, h2, h3, h4, h5⟩; cases a; cases b; simp at h1 h2 h3 h4 h5; subst h1 h2 h3 h4 h5; rfl
instance : DecidableEq Ls := fun a b => decidable_of_iff _ (Ls.eq_iff a b).symm
theorem Mc.eq_iff (a b : Mc) : a = b ↔ a.o.reg = b.o.reg /\ a.o.q = b.o.q /\ a.o.lk = b.o.lk /\ a.o.mp = b.o.mp /\ a.t = b.t := by
 constructor
 · rintro rfl; exact ⟨rfl, rfl, rfl, rfl, rfl⟩
 · rintro ⟨h1, h2, h3, h4, h5⟩; obtain ⟨⟨_, _, _, _⟩, _⟩ := a; obtain ⟨⟨_, _, _, _⟩, _⟩ := b; simp at h1 h2 h3 h4 h5; subst h1 h2 h3 h4 h5; rfl
instance : DecidableEq Mc := fun a b => decidable_of_iff _ (Mc.eq_iff a b).symm
theorem En.eq_iff (a b : En) : a = b ↔ a.s = b.s /\ a.q = b.q /\ a.c.kind = b.c.kind /\ a.c.who = b.c.who /\ a.c.key = b.c.key /\ a.c.val = b.c.val /\ a.c.old = b.c.old := by
 constructor
 · rintro rfl; exact ⟨rfl, rfl, rfl, rfl, rfl, rfl, rfl⟩
 · rintro ⟨h1, h2, h3, h4, h5, h6, h7⟩; obtain ⟨_, _, ⟨_, _, _, _, _⟩⟩ := a; obtain ⟨_, _, ⟨_, _, _, _, _⟩⟩ := b; simp at h1 h2 h3 h4 h5 h6 h7; subst h1 h2 h3 h4 h5 h6 h7; rfl
instance : DecidableEq En := fun a b => decidable_of_iff _ (En.eq_iff a b).symm
def StepC10 : Prop := ∀ {W w : World} {a : MA} {ca : CA} {m : Mc} {e : En} {B B' : Nat}, m.Ok -> e.c.Fits -> RdM w B a m -> RdC w B' ca e.c -> Below W.heap.size W w →
 Calls Tryz.prog 6 #[machV a m, entV ca e] w (GotM W w (m.step e))
def EncodeC10 : Prop := ∀ {W w : World} {a : MA} {m : Mc} {B : Nat}, m.Ok -> RdM w B a m -> Below W.heap.size W w →
 Calls Tryz.prog 21 #[machV a m] w (GotIn W w m.enc)
def DecodeC10 : Prop := ∀ {W w : World} {A : Option Addr} {n c B : Nat} {l : List Nat}, l.length <= 100000 -> (∀ x ∈ l, x < 256) -> n <= c -> c <= maxLen -> Rd w B A n (bv l) -> Below W.heap.size W w →
 Calls Tryz.prog 19 #[.slice A n c] w (GotMB W w (Mc.dec l))
def SameC10 : Prop := ∀ (w : World) {a a' : MA} {m m' : Mc} {B B' : Nat}, m.Ok -> m'.Ok -> RdM w B a m -> RdM w B' a' m' →
 Calls Tryz.prog 10 #[machV a m, machV a' m'] w fun e w' => e = .returned (.bool (decide (m = m'))) /\ Below w.heap.size w w'
def SameEC10 : Prop := ∀ (w : World) {ca ca' : CA} {e e' : En} {B B' : Nat}, e.c.Fits -> e'.c.Fits -> RdC w B ca e.c -> RdC w B' ca' e'.c →
 Calls Tryz.prog 22 #[entV ca e, entV ca' e'] w fun en w' => en = .returned (.bool (decide (e = e'))) /\ Below w.heap.size w w'
def AwakeC10 : Prop := ∀ (w : World), Calls Tryz.prog 4 #[] w fun e w' => e = .returned (.bool true) /\ Below w.heap.size w w'
theorem StepC10.is (h : StepC10) {W w : World} {a : MA} {ca : CA} {m : Mc} {e : En} {B B' : Nat} {r : MAns} (he : m.step e = r) (hM : m.Ok) (hc : e.c.Fits) (hr : RdM w B a m) (hr' : RdC w B' ca e.c) (hB : Below W.heap.size W w) :
 Calls Tryz.prog 6 #[machV a m, entV ca e] w (GotM W w r) := by subst he; exact h hM hc hr hr' hB
theorem SameC10.is (h : SameC10) (w : World) {a a' : MA} {m m' : Mc} {B B' : Nat} {b : Bool} (hb : decide (m = m') = b) (hM : m.Ok) (hM' : m'.Ok) (hr : RdM w B a m) (hr' : RdM w B' a' m') :
 Calls Tryz.prog 10 #[machV a m, machV a' m'] w fun e w' => e = .returned (.bool b) /\ Below w.heap.size w w' := by subst hb; exact h w hM hM' hr hr'
theorem SameEC10.is (h : SameEC10) (w : World) {ca ca' : CA} {e e' : En} {B B' : Nat} {b : Bool} (hb : decide (e = e') = b) (hc : e.c.Fits) (hc' : e'.c.Fits) (hr : RdC w B ca e.c) (hr' : RdC w B' ca' e'.c) :
 Calls Tryz.prog 22 #[entV ca e, entV ca' e'] w fun en w' => en = .returned (.bool b) /\ Below w.heap.size w w' := by subst hb; exact h w hc hc' hr hr'
theorem DecodeC10.is (h : DecodeC10) {W w : World} {A : Option Addr} {n c B : Nat} {l : List Nat} {r : Option Mc} (he : Mc.dec l = r) (hl : l.length <= 100000) (hb : ∀ x ∈ l, x < 256) (hn : n <= c) (hc : c <= maxLen) (hr : Rd w B A n (bv l)) (hB : Below W.heap.size W w) :
 Calls Tryz.prog 19 #[.slice A n c] w (GotMB W w r) := by subst he; exact h hl hb hn hc hr hB
theorem Mc.Ok.enc_length {m : Mc} (h : m.Ok) : m.enc.length <= 1200 := by
 have h1 := encB_length m.o.reg
 have h2 := h.o.reg
 have h3 := encQ_length h.o.qv
 have h4 := h.o.ql
 have h5 := Pk.encs_length m.o.lk
 have h6 := h.o.lkl
 have h7 := encP_length h.o.mp.len
 have h8 := h.o.mp.few
 have h9 := encT_length (ls := m.t) fun l hl => (h.t.each l hl).2.1
 have h10 := h.t8
 have k1 := encN_length m.o.q.length
 have k2 := encN_length m.o.lk.length
 have k3 := encN_length m.o.mp.length
 have k4 := encN_length m.t.length
 unfold Mc.enc
 simp only [List.length_append]
 omega
theorem encQ_lt {qs : List (List Nat)} (h : ∀ x ∈ qs, x.length <= 16 /\ ∀ y ∈ x, y < 256) : ∀ x ∈ encQ qs, x < 256 := by
 intro x hx
 obtain ⟨q, hq, hxq⟩ := List.mem_flatMap.1 hx
 exact Pk.encB_lt (h q hq).2 (by have := (h q hq).1; unfold Pk.top; omega) x hxq
theorem encN_lt (n : Nat) : ∀ x ∈ encN n, x < 256 := Pk.enc_lt (Pk.held_le _)
theorem Mc.Ok.enc_lt {m : Mc} (h : m.Ok) : ∀ x ∈ m.enc, x < 256 := by
 have hb : ∀ {l : List Nat}, l.length <= 16 -> (∀ y ∈ l, y < 256) -> ∀ x ∈ Pk.encB l, x < 256 := fun h1 h2 => Pk.encB_lt h2 (by unfold Pk.top; omega)
 have hp : ∀ x ∈ encP m.o.mp, x < 256 := by
  intro x hx
  obtain ⟨p, hp, hxp⟩ := List.mem_flatMap.1 hx
  have h1 := h.o.mp.len p hp
  have h2 := h.o.mp.byt p hp
  rcases List.mem_append.1 hxp with h3 | h3
  · exact hb (by omega) h2.1 x h3
  · exact hb h1.2 h2.2 x h3
 have ht : ∀ x ∈ encT m.t, x < 256 := by
  intro x hx
  obtain ⟨l, hl, hxl⟩ := List.mem_flatMap.1 hx
  have h1 := h.t.each l hl
  unfold encL1 at hxl
  simp only [List.mem_append] at hxl
  rcases hxl with h3 | h3 | h3 | h3 | h3
  · exact Pk.enc_lt (Pk.held_le _) x h3
  · exact Pk.enc_lt (Pk.held_le _) x h3
  · exact Pk.enc_lt (Pk.held_le _) x h3
  · exact Pk.enc_lt (Pk.held_le _) x h3
  · exact hb h1.2.1 h1.2.2 x h3
 intro x hx
 unfold Mc.enc at hx
 simp only [List.mem_append] at hx
 rcases hx with h3 | h3 | h3 | h3 | h3 | h3 | h3 | h3 | h3
 · exact hb h.o.reg h.o.regb x h3
 · exact encN_lt _ x h3
 · exact encQ_lt (fun l hl => ⟨h.o.qv l hl, h.o.qb l hl⟩) x h3
 · exact encN_lt _ x h3
 · exact Pk.encs_lt _ x h3
 · exact encN_lt _ x h3
 · exact hp x h3
 · exact encN_lt _ x h3
 · exact ht x h3
theorem Mc.dec_more {m : Mc} (h : m.Ok) (x : Nat) (r : List Nat) : Mc.dec (m.enc ++ x :: r) = none := by
 unfold Mc.dec
 rw [Mc.get_enc h, if_neg]
 rintro ⟨_, h2⟩
 injection h2 with h2
 cases h2
namespace Aw
def E1 : En := ⟨1, 1, ⟨4, 0, [], [97], []⟩⟩
def M1 : Mc := ⟨⟨[], [[97]], [], []⟩, [⟨1, 1, 0, [], 1⟩]⟩
theorem fits : E1.c.Fits := ⟨⟨by simp [E1], by simp [E1]⟩, ⟨by simp [E1], by simp [E1]⟩, ⟨by simp [E1], by simp [E1]⟩⟩
theorem zfits : En.zero.c.Fits := ⟨⟨by simp [En.zero], by simp [En.zero]⟩, ⟨by simp [En.zero], by simp [En.zero]⟩, ⟨by simp [En.zero], by simp [En.zero]⟩⟩
theorem s1 : Mc.zero.step E1 = ⟨M1, 0, [], 1⟩ := by rfl
theorem s2 : M1.step E1 = ⟨M1, 0, [], 1⟩ := by rfl
theorem ok1 : M1.Ok := by have := Mc.Ok.step (e := E1) Mc.Ok.zero fits; rwa [s1] at this
theorem se : M1.enc = [0, 1, 1, 97, 0, 0, 1, 1, 1, 0, 2, 0] := by rfl
theorem ze : Mc.zero.enc = [0, 0, 0, 0, 0] := by rfl
theorem sn : Mc.dec ([0, 1, 1, 97, 0, 0, 1, 1, 1, 0, 2, 0] ++ [0]) = none := by rw [<- se]; exact Mc.dec_more ok1 0 []
theorem ne : decide (M1 = Mc.zero) = false := by decide
theorem ee : decide (E1 = En.zero) = false := by decide
end Aw
set_option maxHeartbeats 4000000 in
set_option maxRecDepth 100000 in
theorem machAwake (hS : StepC10) (hE : EncodeC10) (hD : DecodeC10) (hM : SameC10) (hN : SameEC10) : AwakeC10 := by
 intro w
 have kc := const1
 have b0 : Below w.heap.size w ((w.alloc (.cells #[.int .u8 97] 5 (1, 2))).alloc (.cells #[.int .i64 1, .int .i64 1, .int .i64 4, .int .i64 0, .slice none 0 0, .slice (some ⟨w.heap.size, 0, none⟩) 1 1, .slice none 0 0] 29)) := ((Below.refl _ _).alloc lR _).alloc (by simp) _
 have HB0 := zH b0
 have HK0 : Hid (Blk ((w.alloc (.cells #[.int .u8 97] 5 (1, 2))).alloc (.cells #[.int .i64 1, .int .i64 1, .int .i64 4, .int .i64 0, .slice none 0 0, .slice (some ⟨w.heap.size, 0, none⟩) 1 1, .slice none 0 0] 29)) (w.heap.size + 1) 29 #[.int .i64 1, .int .i64 1, .int .i64 4, .int .i64 0, .slice none 0 0, .slice (some ⟨w.heap.size, 0, none⟩) 1 1, .slice none 0 0]) := zH (by
  have := Blk.new (w.alloc (.cells #[.int .u8 97] 5 (1, 2))) 29 #[.int .i64 1, .int .i64 1, .int .i64 4, .int .i64 0, .slice none 0 0, .slice (some ⟨w.heap.size, 0, none⟩) 1 1, .slice none 0 0]
  rwa [World.size_alloc] at this)
 have HC0 : Hid (RdC ((w.alloc (.cells #[.int .u8 97] 5 (1, 2))).alloc (.cells #[.int .i64 1, .int .i64 1, .int .i64 4, .int .i64 0, .slice none 0 0, .slice (some ⟨w.heap.size, 0, none⟩) 1 1, .slice none 0 0] 29)) ((w.alloc (.cells #[.int .u8 97] 5 (1, 2))).alloc (.cells #[.int .i64 1, .int .i64 1, .int .i64 4, .int .i64 0, .slice none 0 0, .slice (some ⟨w.heap.size, 0, none⟩) 1 1, .slice none 0 0] 29)).heap.size ⟨none, 0, some ⟨w.heap.size, 0, none⟩, 1, none, 0⟩ Aw.E1.c) := zH ⟨Rd.none_ _ _ _, ((Rd.made w #[.int .u8 97] 5 (1, 2) 1 rfl).fit.alloc lR _).fit, Rd.none_ _ _ _⟩
 clear b0
 go_enter Tryz.func4, Tryz.ntmps4
 go_upto_region 2 with fail
 clear kc
 generalize ((w.alloc (.cells #[.int .u8 97] 5 (1, 2))).alloc (.cells #[.int .i64 1, .int .i64 1, .int .i64 4, .int .i64 0, .slice none 0 0, .slice (some ⟨w.heap.size, 0, none⟩) 1 1, .slice none 0 0] 29)) = wa at HB0 HK0 HC0 |-
 obtain ⟨x0, x1, x2, x3, x4, x5, x6⟩ := seven HK0.out
 have c1 := hS.is (W := w) (w := wa) (a := ⟨⟨none, 0, none, 0, none, 0, none, 0⟩, none, 0⟩) (ca := ⟨none, 0, some ⟨w.heap.size, 0, none⟩, 1, none, 0⟩) Aw.s1 Mc.Ok.zero Aw.fits (RdM.zero wa 0) HC0.out HB0.out
 have C1 := zH c1
 clear c1
 go_upto_region 3 with (first
  | (go_at_call 6; refine C1.out.mono ?_; rintro e w1 ⟨a1, A1, c1, he, ho1, hv1, hB1, hb1⟩
     have he2 : e = .returned (.tuple #[.agg #[.slice a1.o.A0 0 a1.o.c0, .slice a1.o.A1 1 a1.o.c1, .slice a1.o.A2 0 a1.o.c2, .slice a1.o.A3 0 a1.o.c3, .slice a1.At 1 a1.ct], .agg #[.int .i64 0, .slice A1 0 c1, .int .i64 1]]) := he
     clear he
     subst he2
     have bb := ((Below.refl w1.heap.size w1).alloc lR (.cells #[.slice a1.o.A0 0 a1.o.c0, .slice a1.o.A1 1 a1.o.c1, .slice a1.o.A2 0 a1.o.c2, .slice a1.o.A3 0 a1.o.c3, .slice a1.At 1 a1.ct] 36)).alloc (by simp) (.cells #[.int .i64 0, .slice A1 0 c1, .int .i64 1] 41)
     have HK0 := zH ((HK0.out.below hb1).below bb)
     have HC0 := zH ((HC0.out.below' hb1).below' bb)
     have HB1 := zH (hB1.trans (bb.mono hB1.size))
     have HO1 := zH (ho1.below bb)
     have HK1 := zH ((Blk.new w1 36 #[.slice a1.o.A0 0 a1.o.c0, .slice a1.o.A1 1 a1.o.c1, .slice a1.o.A2 0 a1.o.c2, .slice a1.o.A3 0 a1.o.c3, .slice a1.At 1 a1.ct]).alloc (.cells #[.int .i64 0, .slice A1 0 c1, .int .i64 1] 41))
     have HK2 := zH (Blk.new (w1.alloc (.cells #[.slice a1.o.A0 0 a1.o.c0, .slice a1.o.A1 1 a1.o.c1, .slice a1.o.A2 0 a1.o.c2, .slice a1.o.A3 0 a1.o.c3, .slice a1.At 1 a1.ct] 36)) 41 #[.int .i64 0, .slice A1 0 c1, .int .i64 1])
     rw [World.size_alloc] at HK2
     clear bb ho1 hv1 hB1 hb1 C1 HB0)
  | fail)
 generalize (w1.alloc (.cells #[.slice a1.o.A0 0 a1.o.c0, .slice a1.o.A1 1 a1.o.c1, .slice a1.o.A2 0 a1.o.c2, .slice a1.o.A3 0 a1.o.c3, .slice a1.At 1 a1.ct] 36)).alloc (.cells #[.int .i64 0, .slice A1 0 c1, .int .i64 1] 41) = wb at HK0 HC0 HB1 HO1 HK1 HK2 |-
 clear x0 x1 x2 x3 x4 x5 x6
 obtain ⟨x0, x1, x2, x3, x4, x5, x6⟩ := seven HK0.out
 obtain ⟨y0, y1, y2, y3, y4⟩ := five HK1.out
 have C2 := zH (hS.is (W := w) (w := wb) (a := a1) (ca := ⟨none, 0, some ⟨w.heap.size, 0, none⟩, 1, none, 0⟩) Aw.s2 Aw.ok1 Aw.fits HO1.out.rd HC0.out HB1.out)
 go_upto_region 4 with (first
  | (go_at_call 6; refine C2.out.mono ?_; rintro e w2 ⟨a2, A2, c2, he, ho2, hv2, hB2, hb2⟩
     have he2 : e = .returned (.tuple #[.agg #[.slice a2.o.A0 0 a2.o.c0, .slice a2.o.A1 1 a2.o.c1, .slice a2.o.A2 0 a2.o.c2, .slice a2.o.A3 0 a2.o.c3, .slice a2.At 1 a2.ct], .agg #[.int .i64 0, .slice A2 0 c2, .int .i64 1]]) := he
     clear he
     subst he2
     have bb := ((Below.refl w2.heap.size w2).alloc lR (.cells #[.slice a2.o.A0 0 a2.o.c0, .slice a2.o.A1 1 a2.o.c1, .slice a2.o.A2 0 a2.o.c2, .slice a2.o.A3 0 a2.o.c3, .slice a2.At 1 a2.ct] 36)).alloc (by simp) (.cells #[.int .i64 0, .slice A2 0 c2, .int .i64 1] 41)
     have HK0 := zH ((HK0.out.below hb2).below bb)
     have HC0 := zH ((HC0.out.below' hb2).below' bb)
     have HK1 := zH ((HK1.out.below hb2).below bb)
     have HK2 := zH ((HK2.out.below hb2).below bb)
     have HO1 := zH ((HO1.out.below hb2).below bb)
     have HB2 := zH (hB2.trans (bb.mono hB2.size))
     have HK4 := zH ((Blk.new w2 36 #[.slice a2.o.A0 0 a2.o.c0, .slice a2.o.A1 1 a2.o.c1, .slice a2.o.A2 0 a2.o.c2, .slice a2.o.A3 0 a2.o.c3, .slice a2.At 1 a2.ct]).alloc (.cells #[.int .i64 0, .slice A2 0 c2, .int .i64 1] 41))
     have HK5 := zH (Blk.new (w2.alloc (.cells #[.slice a2.o.A0 0 a2.o.c0, .slice a2.o.A1 1 a2.o.c1, .slice a2.o.A2 0 a2.o.c2, .slice a2.o.A3 0 a2.o.c3, .slice a2.At 1 a2.ct] 36)) 41 #[.int .i64 0, .slice A2 0 c2, .int .i64 1])
     rw [World.size_alloc] at HK5
     clear bb ho2 hv2 hB2 hb2 C2 HB1)
  | fail)
 generalize (w2.alloc (.cells #[.slice a2.o.A0 0 a2.o.c0, .slice a2.o.A1 1 a2.o.c1, .slice a2.o.A2 0 a2.o.c2, .slice a2.o.A3 0 a2.o.c3, .slice a2.At 1 a2.ct] 36)).alloc (.cells #[.int .i64 0, .slice A2 0 c2, .int .i64 1] 41) = wc at HK0 HC0 HB2 HO1 HK1 HK2 HK4 HK5 |-
 clear x0 x1 x2 x3 x4 x5 x6 y0 y1 y2 y3 y4
 obtain ⟨y0, y1, y2, y3, y4⟩ := five HK1.out
 have c3 := hE (W := wc) (w := wc) (a := a1) Aw.ok1 HO1.out.rd (Below.refl _ _)
 rw [Aw.se] at c3
 have C3 := zH c3
 clear c3
 go_upto_region 5 with (first
  | (go_at_call 21; refine C3.out.mono ?_; rintro e w3 ⟨A3, c3, rfl, ho3, hB3, hb3⟩
     simp only [List.length_cons, List.length_nil, Nat.zero_add, Nat.reduceAdd] at ho3 |-
     have HO3 := zH ho3
     have HB3 := zH hB3
     clear ho3 hB3 hb3 C3)
  | fail)
 have hcap := own_cap HO3.out
 have C4 := zH (hD.is (W := w3) (w := w3) (c := c3) (r := some Aw.M1) (by rw [<- Aw.se]; exact Mc.dec_enc Aw.ok1) (by simp) (by decide) hcap.1 (by have := hcap.2; omega) (Rd.own_ HO3.out) (Below.refl _ _))
 clear hcap y0 y1 y2 y3 y4
 go_upto_region 6 with (first
  | (go_at_call 19; refine C4.out.mono ?_; rintro e w4 ⟨a4, he, ho4, hB4, hb4⟩
     have he2 : e = .returned (.tuple #[.agg #[.slice a4.o.A0 0 a4.o.c0, .slice a4.o.A1 1 a4.o.c1, .slice a4.o.A2 0 a4.o.c2, .slice a4.o.A3 0 a4.o.c3, .slice a4.At 1 a4.ct], .bool true]) := he
     clear he
     subst he2
     have bb := ((Below.refl w4.heap.size w4).alloc lR (.cells #[.slice a4.o.A0 0 a4.o.c0, .slice a4.o.A1 1 a4.o.c1, .slice a4.o.A2 0 a4.o.c2, .slice a4.o.A3 0 a4.o.c3, .slice a4.At 1 a4.ct] 36)).alloc (by simp) (.cells #[.int .u8 0] 5)
     have HO5 := zH (own_below (own_below HO3.out hb4) bb)
     have HO4 := zH (OwnM.below (m := Aw.M1) ho4 bb)
     have HB4 := zH (HB3.out.trans ((hB4.trans (bb.mono hB4.size)).mono HB3.out.size))
     have HK7 := zH ((Blk.new w4 36 #[.slice a4.o.A0 0 a4.o.c0, .slice a4.o.A1 1 a4.o.c1, .slice a4.o.A2 0 a4.o.c2, .slice a4.o.A3 0 a4.o.c3, .slice a4.At 1 a4.ct]).alloc (.cells #[.int .u8 0] 5))
     clear bb ho4 hB4 hb4 C4)
  | fail)
 have hold : Old w3 (Value.slice A3 12 c3).ownBlock := own_row_old HO3.out lR
 have HOLD := zH hold
 have hsrc : Rd ((w4.alloc (.cells #[.slice a4.o.A0 0 a4.o.c0, .slice a4.o.A1 1 a4.o.c1, .slice a4.o.A2 0 a4.o.c2, .slice a4.o.A3 0 a4.o.c3, .slice a4.At 1 a4.ct] 36)).alloc (.cells #[.int .u8 0] 5)) ((w4.alloc (.cells #[.slice a4.o.A0 0 a4.o.c0, .slice a4.o.A1 1 a4.o.c1, .slice a4.o.A2 0 a4.o.c2, .slice a4.o.A3 0 a4.o.c3, .slice a4.At 1 a4.ct] 36)).heap.size + 1) (some ⟨(w4.alloc (.cells #[.slice a4.o.A0 0 a4.o.c0, .slice a4.o.A1 1 a4.o.c1, .slice a4.o.A2 0 a4.o.c2, .slice a4.o.A3 0 a4.o.c3, .slice a4.At 1 a4.ct] 36)).heap.size, 0, none⟩) 1 [.int .u8 0] := Rd.made _ #[.int .u8 0] 5 (0, 0) 1 rfl
 rw [World.size_alloc] at hsrc
 have HSRC := zH hsrc
 clear hold hsrc HB3
 go_upto_region 7 with (first
  | (at_builtin
     refine wpList_append_cells (W := wc) cellB (.tmp 35) (.tmp 36) rfl (by rfl) rfl HO5.out rfl HSRC.out (by intro u hu; simp at hu; subst hu; rfl) (by omega) (by omega) HB4.out ?_
     intro A5 c5 w5 hown5 hB5 hg5
     have hv5 : OwnB wc w5 A5 (12 + 1) c5 ([0, 1, 1, 97, 0, 0, 1, 1, 1, 0, 2, 0] ++ [0]) := hown5
     have hcap := own_cap hv5
     have HV5 := zH hv5
     have HB5 := zH hB5
     have HO4b := zH (HO4.out.old hg5 HOLD.out)
     have HK7b := zH (HK7.out.apart_own HO5.out (by decide) hg5)
     have C5 := zH (hD.is (W := w) (w := w5) (c := c5) (r := none) Aw.sn (by simp) (by decide) hcap.1 (by have := hcap.2; omega) (Rd.own_ HV5.out) (HB2.out.trans (hB5.mono HB2.out.size)))
     clear hown5 hB5 hg5 hv5 hcap HSRC HOLD HO5 HO4 HK7 HB4 HO3)
  | (go_at_call 19; refine C5.out.mono ?_; rintro e w6 ⟨a6, he, ho6, hB6, hb6⟩
     have he2 : e = .returned (.tuple #[.agg #[.slice a6.o.A0 0 a6.o.c0, .slice a6.o.A1 0 a6.o.c1, .slice a6.o.A2 0 a6.o.c2, .slice a6.o.A3 0 a6.o.c3, .slice a6.At 0 a6.ct], .bool false]) := he
     clear he
     subst he2
     have bb := (Below.refl w6.heap.size w6).alloc lR (.cells #[.slice a6.o.A0 0 a6.o.c0, .slice a6.o.A1 0 a6.o.c1, .slice a6.o.A2 0 a6.o.c2, .slice a6.o.A3 0 a6.o.c3, .slice a6.At 0 a6.ct] 36)
     have bc := HB5.out.trans ((hb6.trans (bb.mono hb6.size)).mono HB5.out.size)
     have HK0 := zH (HK0.out.below bc)
     have HC0 := zH (HC0.out.below' bc)
     have HK1 := zH (HK1.out.below bc)
     have HK2 := zH (HK2.out.below bc)
     have HK4 := zH (HK4.out.below bc)
     have HK5 := zH (HK5.out.below bc)
     have HO1 := zH (HO1.out.below bc)
     have HO4 := zH ((HO4b.out.below hb6).below bb)
     have HK7 := zH ((HK7b.out.below hb6).below bb)
     have HB6 := zH (hB6.trans (bb.mono hB6.size))
     clear bb bc ho6 hB6 hb6 C5 HO4b HK7b HV5 HB5)
  | fail)
 generalize w6.alloc (.cells #[.slice a6.o.A0 0 a6.o.c0, .slice a6.o.A1 0 a6.o.c1, .slice a6.o.A2 0 a6.o.c2, .slice a6.o.A3 0 a6.o.c3, .slice a6.At 0 a6.ct] 36) = wd at HK0 HC0 HK1 HK2 HK4 HK5 HO1 HO4 HB6 HK7 |-
 obtain ⟨x0, x1, x2, x3, x4, x5, x6⟩ := seven HK0.out
 obtain ⟨y0, y1, y2, y3, y4⟩ := five HK1.out
 obtain ⟨z0, z1, z2, _, _, _⟩ := three HK2.out
 obtain ⟨u0, u1, u2, u3, u4⟩ := five HK4.out
 obtain ⟨v0, v1, v2, _, _, _⟩ := three HK5.out
 obtain ⟨p0, p1, p2, p3, p4⟩ := five HK7.out
 have FRAME : Hid (∀ wx, Below wd.heap.size wd wx -> Blk wx (w.heap.size + 1) 29 #[.int .i64 1, .int .i64 1, .int .i64 4, .int .i64 0, .slice none 0 0, .slice (some ⟨w.heap.size, 0, none⟩) 1 1, .slice none 0 0] /\ Blk wx w1.heap.size 36 #[.slice a1.o.A0 0 a1.o.c0, .slice a1.o.A1 1 a1.o.c1, .slice a1.o.A2 0 a1.o.c2, .slice a1.o.A3 0 a1.o.c3, .slice a1.At 1 a1.ct]) := zH (fun wx hb => ⟨HK0.out.below hb, HK1.out.below hb⟩)
 have CN1 := zH (hM.is wd (b := true) (decide_eq_true rfl) Aw.ok1 Aw.ok1 HO4.out.rd HO1.out.rd)
 go_wp2_with (first
  | (go_at_call 10; refine CN1.out.mono ?_; rintro e w7 ⟨rfl, hb7⟩
     obtain ⟨g0, g1⟩ := FRAME.out w7 hb7
     clear x0 x1 x2 x3 x4 x5 x6 y0 y1 y2 y3 y4
     obtain ⟨x0, x1, x2, x3, x4, x5, x6⟩ := seven g0
     obtain ⟨y0, y1, y2, y3, y4⟩ := five g1
     have hc8 := hE (W := w7) (w := w7) (a := ⟨⟨none, 0, none, 0, none, 0, none, 0⟩, none, 0⟩) Mc.Ok.zero (RdM.zero w7 0) (Below.refl _ _)
     rw [Aw.ze] at hc8
     have CN2 := zH hc8
     have HB7 := zH hb7
     clear hb7 CN1 hc8 g0 g1)
  | (go_at_call 21; refine CN2.out.mono ?_; rintro e w8 ⟨A8, c8, rfl, ho8, hB8, hb8⟩
     simp only [List.length_cons, List.length_nil, Nat.zero_add, Nat.reduceAdd] at ho8 |-
     have hs8 := str_of (c := c8) (Rd.own_ ho8)
     have hl1 : (strB [0, 0, 0, 0, 0] == ⟨#[0, 0, 0, 0, 0]⟩) = true := by rfl
     have hl2 : ((strB [0, 0, 0, 0, 0]).toList == [0, 0, 0, 0, 0]) = true := by rw [ByteArray.toList_eq]; decide
     have HB8 := zH (HB7.out.trans (hb8.mono HB7.out.size))
     obtain ⟨g0, g1⟩ := FRAME.out w8 HB8.out
     clear x0 x1 x2 x3 x4 x5 x6 y0 y1 y2 y3 y4
     obtain ⟨x0, x1, x2, x3, x4, x5, x6⟩ := seven g0
     obtain ⟨y0, y1, y2, y3, y4⟩ := five g1
     have CN3 := zH (hN.is w8 (b := true) (decide_eq_true rfl) Aw.fits Aw.fits (HC0.out.below HB8.out) (HC0.out.below HB8.out))
     clear hB8 hb8 g0 g1 CN2)
  | (go_at_call 22; refine CN3.out.mono ?_; rintro e w9 ⟨rfl, hb9⟩
     have HB9 := zH (HB8.out.trans (hb9.mono HB8.out.size))
     obtain ⟨g0, g1⟩ := FRAME.out w9 HB9.out
     clear x0 x1 x2 x3 x4 x5 x6 y0 y1 y2 y3 y4
     obtain ⟨x0, x1, x2, x3, x4, x5, x6⟩ := seven g0
     obtain ⟨y0, y1, y2, y3, y4⟩ := five g1
     have CN4 := zH (hN.is w9 (b := false) Aw.ee Aw.fits Aw.zfits (HC0.out.below HB9.out) (RdC.zero w9 0))
     clear hb9 g0 g1 CN3)
  | (go_at_call 22; refine CN4.out.mono ?_; rintro e w10 ⟨rfl, hb10⟩
     have HB10 := zH (HB9.out.trans (hb10.mono HB9.out.size))
     obtain ⟨g0, g1⟩ := FRAME.out w10 HB10.out
     clear x0 x1 x2 x3 x4 x5 x6 y0 y1 y2 y3 y4
     obtain ⟨y0, y1, y2, y3, y4⟩ := five g1
     have CN5 := zH (hM.is w10 (b := false) Aw.ne Aw.ok1 Mc.Ok.zero (HO1.out.rd.below HB10.out) (RdM.zero w10 0))
     clear hb10 g0 g1 CN4)
  | (go_at_call 10; refine CN5.out.mono ?_; rintro e w11 ⟨rfl, hb11⟩
     have HB11 := zH (HB6.out.trans ((HB10.out.trans (hb11.mono HB10.out.size)).mono HB6.out.size))
     clear hb11 CN5)
  | fail)
 go_ret
 exact ⟨rfl, HB11.out⟩
structure OnlyB (w w' : World) : Prop where
 size : w.heap.size <= w'.heap.size
 blk : ∀ {g : Nat} {t : TypeId} {cs : Array Value}, 5 ≠ t -> Blk w g t cs -> Blk w' g t cs
section
variable {W w w' w'' : World} {A : Option Addr} {n c : Nat} {l : List Nat}
theorem OnlyB.trans (h : OnlyB w w') (h' : OnlyB w' w'') : OnlyB w w'' := ⟨Nat.le_trans h.size h'.size, fun hn hb => h'.blk hn (h.blk hn hb)⟩
theorem OnlyB.of_below (h : Below w.heap.size w w') : OnlyB w w' := ⟨h.size, fun _ hb => hb.below h⟩
theorem OnlyB.grown {base : Nat} {xs : List Value} (h : w.ownsRow base 5 1 (.slice A n c) n xs) (hg : w.grownBy w' (Value.slice A n c).ownBlock) : OnlyB w w' :=
 ⟨hg.size, fun hn hb => hb.apart_own h (Ne.symm hn) hg⟩
theorem RdT.onlyB {e : TypeId} {vs : List Value} (h : RdT w e A n vs) (hb : OnlyB w w') (hne : 5 ≠ e) : RdT w' e A n vs :=
 ⟨h.1, fun hn => by obtain ⟨g, o, cur, e1, hk, hc⟩ := h.2 hn; exact ⟨g, o, cur, e1, hb.blk hne hk, hc⟩⟩
end
def GotPut (W w : World) (l : List Nat) (e : Ending) (w' : World) : Prop := ∃ A c, e = .returned (.slice A l.length c) /\ OwnB W w' A l.length c l /\ Below W.heap.size W w' /\ OnlyB w w'
theorem GotPut.is {W w w' : World} {l l' : List Nat} {e : Ending} (h : GotPut W w l e w') (he : l = l') : GotPut W w l' e w' := he ▸ h
set_option maxRecDepth 100000 in
theorem putNum_any {W w : World} {A : Option Addr} {n c : Nat} {l : List Nat} (z : Int) (hl : l.length <= 1000000) (ho : OwnB W w A n c l) (hB : Below W.heap.size W w) :
 Calls Tryz.prog 41 #[.slice A n c, .int .i64 z] w (GotPut W w (l ++ Pk.enc (Pk.held z))) := by
 obtain rfl := own_len ho
 have HO := zH ho
 have HB := zH hB
 have HX : Hid (∀ w, Below W.heap.size W w -> Calls Tryz.prog 121 #[.slice none 0 0, .int .i64 z] w fun e w' => ∃ A n c, e = .returned (.slice A n c) /\ OwnB W w' A n c (Pk.enc (Pk.held z)) /\ Below W.heap.size W w' /\ Below w.heap.size w w') :=
  zH (fun w hb => put_in (W := W) (l := []) (B := 0) (n := 0) (by unfold Lim; omega) (Rd.none_ _ _ _) hb rfl)
 obtain ⟨x, hx⟩ : ∃ x, Pk.enc (Pk.held z) = x := ⟨_, rfl⟩
 have hxl : x.length <= 9 := by rw [<- hx]; exact (Pk.enc_length _).2
 rw [hx] at HX |-
 clear ho hB hx
 go_enter Tryz.func41, Tryz.ntmps41
 go_wp2_with (first
  | (go_at_call 121; refine (HX.out _ HB.out).mono ?_; rintro e w1 ⟨A1, n1, c1, rfl, ho1, hB1, hb1⟩; obtain rfl := own_len ho1)
  | (at_builtin
     refine wpList_append_cells (W := W) cellB (.tmp 5) (.tmp 7) rfl (by rfl) rfl (own_below HO.out hb1) rfl (Rd.own_ ho1) (bv_one _) (by omega) (by omega) hB1 ?_
     intro A3 c3 w3 hown3 hB3 hg3)
  | fail)
 go_ret
 rw [<- bv_app] at hown3
 refine ⟨A3, c3, by rw [List.length_append]; rfl, by rw [List.length_append]; exact hown3, hB3, (OnlyB.of_below hb1).trans (OnlyB.grown (own_below HO.out hb1) hg3)⟩
set_option maxRecDepth 100000 in
theorem putBytes_any {W w : World} {A A' : Option Addr} {n c n' c' : Nat} {l x : List Nat} (hl : l.length <= 1000000) (hx : x.length <= 100000) (ho : OwnB W w A n c l) (hr : Rd W W.heap.size A' n' (bv x)) (hB : Below W.heap.size W w) :
 Calls Tryz.prog 42 #[.slice A n c, .slice A' n' c'] w (GotPut W w (l ++ Pk.encB x)) := by
 obtain rfl := own_len ho
 obtain rfl := hr.length
 have HO := zH ho
 have HB := zH hB
 have HX : Hid (∀ w, Below W.heap.size W w -> Calls Tryz.prog 122 #[.slice none 0 0, .slice A' x.length c'] w fun e w' => ∃ A n c, e = .returned (.slice A n c) /\ OwnB W w' A n c (Pk.encB x) /\ Below W.heap.size W w' /\ Below w.heap.size w w') :=
  zH (fun w hb => putb_in (W := W) (l := []) (B := 0) (n := 0) (B' := W.heap.size) (Rd.none_ _ _ _) (hr.below hb) (by unfold Lim; simp; omega) hb rfl)
 have hxl := encB_length x
 obtain ⟨y, hy⟩ : ∃ y, Pk.encB x = y := ⟨_, rfl⟩
 rw [hy] at HX hxl |-
 clear ho hB hy hr
 go_enter Tryz.func42, Tryz.ntmps42
 go_wp2_with (first
  | (go_at_call 122; refine (HX.out _ HB.out).mono ?_; rintro e w1 ⟨A1, n1, c1, rfl, ho1, hB1, hb1⟩; obtain rfl := own_len ho1)
  | (at_builtin
     refine wpList_append_cells (W := W) cellB (.tmp 5) (.tmp 7) rfl (by rfl) rfl (own_below HO.out hb1) rfl (Rd.own_ ho1) (bv_one _) (by omega) (by omega) hB1 ?_
     intro A3 c3 w3 hown3 hB3 hg3)
  | fail)
 go_ret
 rw [<- bv_app] at hown3
 refine ⟨A3, c3, by rw [List.length_append]; rfl, by rw [List.length_append]; exact hown3, hB3, (OnlyB.of_below hb1).trans (OnlyB.grown (own_below HO.out hb1) hg3)⟩
set_option maxHeartbeats 2000000 in
set_option maxRecDepth 100000 in
theorem putPair_any {W w : World} {A A1 A2 : Option Addr} {n c c1 c2 : Nat} {l : List Nat} {p : Pr} (hl : l.length <= 100000) (hp1 : p.1.length <= 100000) (hp2 : p.2.length <= 100000) (ho : OwnB W w A n c l) (h1 : Rd W W.heap.size A1 p.1.length (bv p.1)) (h2 : Rd W W.heap.size A2 p.2.length (bv p.2)) (hB : Below W.heap.size W w) :
 Calls Tryz.prog 65 #[.slice A n c, .agg #[.slice A1 p.1.length c1, .slice A2 p.2.length c2]] w (GotPut W w (l ++ Pk.encB p.1 ++ Pk.encB p.2)) := by
 obtain rfl := own_len ho
 obtain ⟨wz, hwz⟩ : ∃ wz, w.alloc (.cells #[.slice A1 p.1.length c1, .slice A2 p.2.length c2] 81) = wz := ⟨_, rfl⟩
 have hbz : Below w.heap.size w wz := by rw [<- hwz]; exact (Below.refl _ _).alloc lR _
 have hkz : Blk wz w.heap.size 81 #[.slice A1 p.1.length c1, .slice A2 p.2.length c2] := by rw [<- hwz]; exact Blk.new _ _ _
 obtain ⟨g, hg⟩ : ∃ g, w.heap.size = g := ⟨_, rfl⟩
 rw [hg] at hkz
 have HZ := zH hbz
 have HO := zH (own_below ho hbz)
 have HB := zH (hB.trans (hbz.mono hB.size))
 have HR1 := zH h1
 have HR2 := zH h2
 have HP1 := zH hp1
 have HP2 := zH hp2
 have HW := zH hwz
 have HG := zH hg
 have HK := zH hkz
 obtain ⟨l1, e1⟩ : ∃ x, l ++ Pk.encB p.1 = x := ⟨_, rfl⟩
 have hl1 : l1.length <= 1000000 := by rw [<- e1, List.length_append]; have := encB_length p.1; omega
 obtain ⟨l2, e2⟩ : ∃ x, l1 ++ Pk.encB p.2 = x := ⟨_, rfl⟩
 rw [e1, e2]
 have HE1 := zH e1
 have HE2 := zH e2
 have HL := zH (And.intro hl hl1)
 clear ho hbz hB h1 h2 hp1 hp2 hwz hg hkz e1 e2 hl hl1
 go_enter Tryz.func65, Tryz.ntmps65
 go_upto_region 1 with fail
 rw [HG.out, HW.out]
 refine wp_region_held_drew (S := fun w' => Blk w' g 81 #[.slice A1 p.1.length c1, .slice A2 p.2.length c2]) (by kernel_rfl) HK.out (fun _ => ?_)
 have HD : Hid (Below wz.heap.size wz wz.drew) := zH (Below.refl _ _).drew
 generalize wz.drew = wd at HD |-
 have HK := zH (HK.out.below HD.out)
 refine tkL (i := 0) (v := .slice A l.length c) rfl (fun w _ => by go_simp) HK.out ?_
 refine tkL (i := 1) (v := .pointer (some ⟨g, 0, none⟩)) rfl (fun w _ => by go_simp) HK.out ?_
 refine tkL (i := 4) (v := .pointer (some ⟨g, 1, none⟩)) rfl (fun w _ => by go_simp) HK.out ?_
 refine tkL (i := 2) (v := .slice A1 p.1.length c1) rfl (fun w h => by have q := h.cell 0; go_simp) HK.out ?_
 refine tkL (i := 5) (v := .slice A2 p.2.length c2) rfl (fun w h => by have q := h.cell 1; go_simp) HK.out ?_
 refine rdH (rs := [3]) ?_
 refine AllReadyH.cons rfl (fun K hK => ?_) AllReadyH.nil
 go_simp
 refine (putBytes_any (W := W) (c' := c1) (Nat.le_trans HL.out.1 (by omega)) HP1.out (own_below HO.out HD.out) HR1.out (HB.out.trans (HD.out.mono HB.out.size))).mono ?_
 rintro en w1 ⟨A3, c3, rfl, ho3, hB3, hb3⟩
 rw [HE1.out] at ho3 |-
 have HK3 := zH (hb3.blk (by decide) HK.out)
 go_simp
 refine hK.out _ _ HK3.out (fun _ => ?_)
 clear hK K
 refine rdH (rs := [6]) ?_
 refine AllReadyH.cons rfl (fun K hK => ?_) AllReadyH.nil
 go_simp
 refine (putBytes_any (W := W) (c' := c2) HL.out.2 HP2.out ho3 HR2.out hB3).mono ?_
 rintro en w2 ⟨A4, c4, rfl, ho4, hB4, hb4⟩
 rw [HE2.out] at ho4 |-
 have HK4 := zH (hb4.blk (by decide) HK3.out)
 go_simp
 refine hK.out _ _ HK4.out (fun _ => ?_)
 clear hK K
 refine tkL (i := 7) (v := .slice A4 l2.length c4) rfl (fun w _ => by go_simp) HK4.out ?_
 refine wpAnyH_done (by kernel_rfl) ?_ _
 go_wp2_with fail
 go_ret
 exact ⟨A4, c4, rfl, ho4, hB4, (((OnlyB.of_below HZ.out).trans (OnlyB.of_below HD.out)).trans hb3).trans hb4⟩
set_option maxHeartbeats 2000000 in
set_option maxRecDepth 100000 in
theorem putLast_any {W w : World} {A A1 : Option Addr} {n c c1 : Nat} {l : List Nat} {m : Ls} (hl : l.length <= 100000) (hv : m.v.length <= 100000) (hm : -1 <= m.n /\ m.n <= 1073741824) (ho : OwnB W w A n c l) (h1 : Rd W W.heap.size A1 m.v.length (bv m.v)) (hB : Below W.heap.size W w) :
 Calls Tryz.prog 67 #[.slice A n c, .agg #[.int .i64 m.s, .int .i64 m.q, .int .i64 m.e, .slice A1 m.v.length c1, .int .i64 m.n]] w (GotPut W w (l ++ encL1 m)) := by
 obtain rfl := own_len ho
 obtain ⟨wz, hwz⟩ : ∃ wz, w.alloc (.cells #[.int .i64 m.s, .int .i64 m.q, .int .i64 m.e, .slice A1 m.v.length c1, .int .i64 m.n] 71) = wz := ⟨_, rfl⟩
 have hbz : Below w.heap.size w wz := by rw [<- hwz]; exact (Below.refl _ _).alloc lR _
 have hkz : Blk wz w.heap.size 71 #[.int .i64 m.s, .int .i64 m.q, .int .i64 m.e, .slice A1 m.v.length c1, .int .i64 m.n] := by rw [<- hwz]; exact Blk.new _ _ _
 obtain ⟨g, hg⟩ : ∃ g, w.heap.size = g := ⟨_, rfl⟩
 rw [hg] at hkz
 have HZ := zH hbz
 have HO := zH (own_below ho hbz)
 have HB := zH (hB.trans (hbz.mono hB.size))
 have HR1 := zH h1
 have HV := zH hv
 have HW := zH hwz
 have HG := zH hg
 have HK := zH hkz
 obtain ⟨s, es⟩ : ∃ x, m.s = x := ⟨_, rfl⟩
 obtain ⟨q, eq⟩ : ∃ x, m.q = x := ⟨_, rfl⟩
 obtain ⟨e, ee⟩ : ∃ x, m.e = x := ⟨_, rfl⟩
 obtain ⟨v, ev⟩ : ∃ x, m.v = x := ⟨_, rfl⟩
 obtain ⟨N, eN⟩ : ∃ x, m.n = x := ⟨_, rfl⟩
 have hEL : encL1 m = Pk.enc (Pk.held s) ++ (Pk.enc (Pk.held q) ++ (Pk.enc (Pk.held e) ++ (Pk.enc (Pk.held (N + 1)) ++ Pk.encB v))) := by unfold encL1; rw [es, eq, ee, ev, eN]
 rw [hEL]
 rw [es, eq, ee, ev, eN] at HK HW
 rw [ev] at HR1 HV
 rw [eN] at hm
 rw [es, eq, ee, ev, eN]
 clear es eq ee ev eN hEL
 have k1 := (Pk.enc_length (Pk.held s)).2
 have k2 := (Pk.enc_length (Pk.held q)).2
 have k3 := (Pk.enc_length (Pk.held e)).2
 have k4 := (Pk.enc_length (Pk.held (N + 1))).2
 obtain ⟨l1, e1⟩ : ∃ x, l ++ Pk.enc (Pk.held s) = x := ⟨_, rfl⟩
 obtain ⟨l2, e2⟩ : ∃ x, l1 ++ Pk.enc (Pk.held q) = x := ⟨_, rfl⟩
 obtain ⟨l3, e3⟩ : ∃ x, l2 ++ Pk.enc (Pk.held e) = x := ⟨_, rfl⟩
 obtain ⟨l4, e4⟩ : ∃ x, l3 ++ Pk.enc (Pk.held (N + 1)) = x := ⟨_, rfl⟩
 obtain ⟨l5, e5⟩ : ∃ x, l4 ++ Pk.encB v = x := ⟨_, rfl⟩
 have hL : l.length <= 1000000 /\ l1.length <= 1000000 /\ l2.length <= 1000000 /\ l3.length <= 1000000 /\ l4.length <= 1000000 := by
  rw [<- e4, <- e3, <- e2, <- e1]; simp only [List.length_append]; omega
 have hEND : l ++ (Pk.enc (Pk.held s) ++ (Pk.enc (Pk.held q) ++ (Pk.enc (Pk.held e) ++ (Pk.enc (Pk.held (N + 1)) ++ Pk.encB v)))) = l5 := by
  rw [<- e5, <- e4, <- e3, <- e2, <- e1]; simp only [List.append_assoc]
 rw [hEND]
 have HL := zH hL
 have HE1 := zH e1
 have HE2 := zH e2
 have HE3 := zH e3
 have HE4 := zH e4
 have HE5 := zH e5
 have HMIN : Hid (N <= 1073741824) := zH hm.2
 have HWR : Hid (IntKind.i64.wrap (N + 1) = N + 1) := zH (IntWalk.i64_in _ (by omega))
 clear hm
 clear ho hbz hB h1 hv hwz hg hkz e1 e2 e3 e4 e5 hl hL hEND k1 k2 k3 k4
 go_enter Tryz.func67, Tryz.ntmps67
 go_upto_region 1 with fail
 rw [HG.out, HW.out]
 refine wp_region_held_drew (S := fun w' => Blk w' g 71 #[.int .i64 s, .int .i64 q, .int .i64 e, .slice A1 v.length c1, .int .i64 N]) (by kernel_rfl) HK.out (fun _ => ?_)
 have HD : Hid (Below wz.heap.size wz wz.drew) := zH (Below.refl _ _).drew
 generalize wz.drew = wd at HD |-
 have HK := zH (HK.out.below HD.out)
 refine tkL (i := 0) (v := .slice A l.length c) rfl (fun w _ => by go_simp) HK.out ?_
 refine tkL (i := 1) (v := .pointer (some ⟨g, 0, none⟩)) rfl (fun w _ => by go_simp) HK.out ?_
 refine tkL (i := 4) (v := .pointer (some ⟨g, 1, none⟩)) rfl (fun w _ => by go_simp) HK.out ?_
 refine tkL (i := 2) (v := .int .i64 s) rfl (fun w h => by have q := h.cell 0; go_simp) HK.out ?_
 refine tkL (i := 5) (v := .int .i64 q) rfl (fun w h => by have q := h.cell 1; go_simp) HK.out ?_
 refine rdH (rs := [3]) ?_
 refine AllReadyH.cons rfl (fun K hK => ?_) AllReadyH.nil
 go_simp
 refine (putNum_any (W := W) s HL.out.1 (own_below HO.out HD.out) (HB.out.trans (HD.out.mono HB.out.size))).mono ?_
 rintro en w1 ⟨A3, c3, rfl, ho3, hB3, hb3⟩
 rw [HE1.out] at ho3 |-
 have HK3 := zH (hb3.blk (by decide) HK.out)
 go_simp
 refine hK.out _ _ HK3.out (fun _ => ?_)
 clear hK K
 refine rdH (rs := [6]) ?_
 refine AllReadyH.cons rfl (fun K hK => ?_) AllReadyH.nil
 go_simp
 refine (putNum_any (W := W) q HL.out.2.1 ho3 hB3).mono ?_
 rintro en w2 ⟨A4, c4, rfl, ho4, hB4, hb4⟩
 rw [HE2.out] at ho4 |-
 have HK4 := zH (hb4.blk (by decide) HK3.out)
 go_simp
 refine hK.out _ _ HK4.out (fun _ => ?_)
 clear hK K
 refine tkL (i := 7) (v := .slice A4 l2.length c4) rfl (fun w _ => by go_simp) HK4.out ?_
 refine wpAnyH_done (by kernel_rfl) ?_ _
 obtain ⟨x0, x1, x2, x3, x4⟩ := five HK4.out
 go_upto_region 3 with (first
  | (go_at_call 41; refine (putNum_any (W := W) e HL.out.2.2.1 ho4 hB4).mono ?_; rintro en w5 ⟨A5, c5, rfl, ho5, hB5, hb5⟩; rw [HE3.out] at ho5 |-; have HK5 := zH (hb5.blk (by decide) HK4.out); obtain ⟨y0, y1, y2, y3, y4⟩ := five HK5.out)
  | fail)
 have hmin : ∀ (ts : Array TypeId) (t : TypeId) (w : World), (Builtin.min_ ts t #[.int .i64 N, .int .i64 9223372036854775806]).run Tryz.prog w = .ok (.int .i64 N) w := fun ts t w => by
  rw [run_min_int2, if_neg (by have := HMIN.out; omega)]
 have hwr := HWR.out
 clear HMIN HWR x0 x1 x2 x3 x4
 go_wp2_with (first
  | (go_at_call 41; refine (putNum_any (W := W) (N + 1) HL.out.2.2.2.1 ho5 hB5).mono ?_; rintro en w6 ⟨A6, c6, rfl, ho6, hB6, hb6⟩; rw [HE4.out] at ho6 |-; have HK6 := zH (hb6.blk (by decide) HK5.out); obtain ⟨z0, z1, z2, z3, z4⟩ := five HK6.out)
  | (go_at_call 42; refine (putBytes_any (W := W) (c' := c1) HL.out.2.2.2.2 HV.out ho6 HR1.out hB6).mono ?_; rintro en w7 ⟨A7, c7, rfl, ho7, hB7, hb7⟩; rw [HE5.out] at ho7 |-)
  | fail)
 go_ret
 exact ⟨A7, c7, rfl, ho7, hB7, ((((((OnlyB.of_below HZ.out).trans (OnlyB.of_below HD.out)).trans hb3).trans hb4).trans hb5).trans hb6).trans hb7⟩
set_option maxRecDepth 100000 in
theorem clone_raw (l : List Nat) (A : Option Addr) (n c B : Nat) (hn : Lim 0 n) (w : World) (hr : Rd w B A n (bv l)) :
 Calls Tryz.prog 40 #[.slice A n c] w (GotB w l) := by
 have hn := hn.out
 have H := zH hr.fit
 have hB0 : Below w.heap.size w w := Below.refl _ _
 cases A with
 | none =>
   have h0 : n = 0 := by
    rcases Nat.eq_zero_or_pos n with h | h
    · exact h
    · obtain ⟨b, o, h1, _⟩ := hr.2 h
      cases h1
   subst h0
   have hl : l = [] := List.eq_nil_of_length_eq_zero hr.length
   subst hl
   clear hr H
   have he : ∀ w : World, (binOp .eql 24 (.slice none 0 c) (.slice none 0 0)).run Tryz.prog w = .ok (.bool true) w := fun _ => rfl
   go_enter Tryz.func40, Tryz.ntmps40
   go_wp2
   go_ret
   exact ⟨none, 0, 0, rfl, ⟨rfl, .inl ⟨rfl, rfl⟩⟩, hB0⟩
 | some a =>
   clear hr
   have he : ∀ w : World, (binOp .eql 24 (.slice (some a) n c) (.slice none 0 0)).run Tryz.prog w = .ok (.bool false) w := fun _ => rfl
   go_enter Tryz.func40, Tryz.ntmps40
   go_wp2_with (first
    | (at_builtin
       refine wpList_append_bytes (W := w) byteT (.tmp 5) (.tmp 6) rfl (by rfl) rfl (own_empty hB0 5) rfl ((H.out).alloc lR _) (by omega) (hB0.alloc lR _) ?_
       intro A1 c1 w1 hown1 hr1 hB1
       simp only [Nat.zero_add, List.nil_append] at hown1 hr1)
    | fail)
   go_ret
   exact ⟨_, _, _, rfl, hown1, hB1⟩
theorem clone_any {W w : World} {l : List Nat} {A : Option Addr} {n c B : Nat} (hn : Lim 0 n) (hr : Rd w B A n (bv l)) (hB : Below W.heap.size W w) :
 Calls Tryz.prog 40 #[.slice A n c] w (GotIn W w l) :=
 (clone_raw l A n c B hn w hr).mono fun e w' h => GotIn.of hB h
theorem take_snoc {α : Type} {l : List α} {k : Nat} {x : α} (h : l[k]? = some x) : l.take (k + 1) = l.take k ++ [x] := by rw [List.take_add_one, h]; rfl
theorem cell_of {W w : World} (hB : Below W.heap.size W w) {p : Addr} {v : Value} (h : W.cell? p = some v) : w.cell? p = some v := (hB.cell (World.block_lt_of_cell? _ _ h)).trans h
set_option maxHeartbeats 2000000 in
set_option maxRecDepth 100000 in
theorem putEachQ_any {W w : World} {A A' : Option Addr} {n c n' c' : Nat} {l : List Nat} {xs : List (List Nat)} (hl : l.length <= 10000) (hn : xs.length <= 100) (hx : ∀ x ∈ xs, x.length <= 16) (ho : OwnB W w A n c l) (hr : RdQ W W.heap.size A' n' xs) (hB : Below W.heap.size W w) :
 Calls Tryz.prog 62 #[.slice A n c, .slice A' n' c', .func (.func 42) #[] #[]] w (GotPut W w (l ++ (encN xs.length ++ encQ xs))) := by
 obtain rfl := own_len ho
 have hlen : xs.length = n' := hr.length
 subst hlen
 have HR := zH hr
 have HX := zH hx
 have HLEN : Hid (∀ k, k <= xs.length -> (l ++ (encN xs.length ++ encQ (xs.take k))).length <= 20000) := zH (fun k hk => by
  have h1 := encN_length xs.length
  have h2 := encQ_length (qs := xs.take k) (fun y hy => hx y (List.mem_of_mem_take hy))
  have h3 : (xs.take k).length <= k := List.length_take_le _ _
  simp only [List.length_append]; omega)
 have HC := zH (putNum_any (W := W) (xs.length : Int) (by omega) ho hB)
 obtain ⟨l0, e0⟩ : ∃ x, l ++ Pk.enc (Pk.held (xs.length : Int)) = x := ⟨_, rfl⟩
 rw [e0] at HC
 have HE0 : Hid (∀ y, l ++ (encN xs.length ++ y) = l0 ++ y) := zH (fun y => by rw [<- e0, <- List.append_assoc]; rfl)
 rw [HE0.out] 
 clear ho hB hr e0 hx 
 go_enter Tryz.func62, Tryz.ntmps62
 go_wp2_with (first
  | (go_at_call 41; refine HC.out.mono ?_; rintro e w1 ⟨A1, c1, rfl, ho1, hB1, hb1⟩)
  | fail)
 have HO1 := zH ho1
 have HB1 := zH hB1
 have HU1 := zH hb1
 clear ho1 hB1 hb1 HC
 go_loopw [0, 8, 15] (fun s0 s8 s15 wr => ∃ (k : Nat) (A2 : Option Addr) (c2 : Nat) (L : List Nat), k <= xs.length /\ s15 = .int .i64 (k : Int) /\ s0 = .slice A2 L.length c2 /\ Hid (L = l0 ++ encQ (xs.take k)) /\ Hid (OwnB W wr A2 L.length c2 L) /\ Hid (Below W.heap.size W wr) /\ Hid (OnlyB w wr)) (fun _ _ s15 _ => xs.length - (intOf s15).toNat)
 case atStart => exact ⟨0, A1, c1, l0, Nat.zero_le _, rfl, rfl, zH (by simp [encQ]), HO1, HB1, HU1⟩
 case round =>
  obtain ⟨k, A2, c2, L, hk, rfl, rfl, HL, HO, HB, HU⟩ := hrel
  by_cases hlt : k < xs.length
  · obtain ⟨b, o, x, A3, c3, rfl, hxk, hc0, hrd⟩ := HR.out.at hlt
    have y0 := cell_of HB.out hc0
    have hLL : L.length <= 1000000 := by have := HLEN.out k hk; rw [HE0.out, <- HL.out] at this; omega
    have hLS : L.length <= 20000 := by have := HLEN.out k hk; rwa [HE0.out, <- HL.out] at this
    have HP := zH hxk
    have HC := zH (putBytes_any (W := W) (c' := c3) hLL (Nat.le_trans (HX.out x (List.mem_of_getElem? hxk)) (by omega)) HO.out hrd HB.out)
    obtain ⟨L', eL⟩ : ∃ y, L ++ Pk.encB x = y := ⟨_, rfl⟩
    rw [eL] at HC
    have HEL := zH eL
    clear eL hxk 
    go_wp2_with (first
     | (go_at_call 42; refine HC.out.mono ?_; rintro e w4 ⟨A5, c5, rfl, ho5, hB5, hb5⟩)
     | fail)
    go_roundw
    case rel =>
     refine ⟨k + 1, A5, c5, L', by omega, by go_num, rfl, zH ?_, zH ho5, zH hB5, zH (HU.out.trans hb5)⟩
     rw [<- HEL.out, HL.out, take_snoc HP.out, encQ_snoc]
     simp only [List.append_assoc]
    case measure => simp only [intOf]; omega
  · obtain rfl : k = xs.length := by omega
    go_wp2_with fail
    go_ret
    exact GotPut.is (l := L) ⟨A2, c2, rfl, HO.out, HB.out, HU.out⟩ (by rw [HL.out, List.take_of_length_le lR])
set_option maxHeartbeats 2000000 in
set_option maxRecDepth 100000 in
theorem putEachI_any {W w : World} {A A' : Option Addr} {n c n' c' : Nat} {l : List Nat} {xs : List Int} (hl : l.length <= 10000) (hn : xs.length <= 100)  (ho : OwnB W w A n c l) (hr : Rd W W.heap.size A' n' (iv xs)) (hB : Below W.heap.size W w) :
 Calls Tryz.prog 63 #[.slice A n c, .slice A' n' c', .func (.func 41) #[] #[]] w (GotPut W w (l ++ (encN xs.length ++ Pk.encs xs))) := by
 obtain rfl := own_len ho
 have hlen : xs.length = n' := by have := hr.1; rwa [iv_length] at this
 subst hlen
 have HR := zH hr
 have HLEN : Hid (∀ k, k <= xs.length -> (l ++ (encN xs.length ++ Pk.encs (xs.take k))).length <= 20000) := zH (fun k hk => by
  have h1 := encN_length xs.length
  have h2 := Pk.encs_length (xs.take k)
  have h3 : (xs.take k).length <= k := List.length_take_le _ _
  simp only [List.length_append]; omega)
 have HC := zH (putNum_any (W := W) (xs.length : Int) (by omega) ho hB)
 obtain ⟨l0, e0⟩ : ∃ x, l ++ Pk.enc (Pk.held (xs.length : Int)) = x := ⟨_, rfl⟩
 rw [e0] at HC
 have HE0 : Hid (∀ y, l ++ (encN xs.length ++ y) = l0 ++ y) := zH (fun y => by rw [<- e0, <- List.append_assoc]; rfl)
 rw [HE0.out] 
 clear ho hB hr e0 
 go_enter Tryz.func63, Tryz.ntmps63
 go_wp2_with (first
  | (go_at_call 41; refine HC.out.mono ?_; rintro e w1 ⟨A1, c1, rfl, ho1, hB1, hb1⟩)
  | fail)
 have HO1 := zH ho1
 have HB1 := zH hB1
 have HU1 := zH hb1
 clear ho1 hB1 hb1 HC
 go_loopw [0, 8, 15] (fun s0 s8 s15 wr => ∃ (k : Nat) (A2 : Option Addr) (c2 : Nat) (L : List Nat), k <= xs.length /\ s15 = .int .i64 (k : Int) /\ s0 = .slice A2 L.length c2 /\ Hid (L = l0 ++ Pk.encs (xs.take k)) /\ Hid (OwnB W wr A2 L.length c2 L) /\ Hid (Below W.heap.size W wr) /\ Hid (OnlyB w wr)) (fun _ _ s15 _ => xs.length - (intOf s15).toNat)
 case atStart => exact ⟨0, A1, c1, l0, Nat.zero_le _, rfl, rfl, zH (by simp [Pk.encs]), HO1, HB1, HU1⟩
 case round =>
  obtain ⟨k, A2, c2, L, hk, rfl, rfl, HL, HO, HB, HU⟩ := hrel
  by_cases hlt : k < xs.length
  · obtain ⟨x, hxk⟩ : ∃ x, xs[k]? = some x := ⟨_, List.getElem?_eq_getElem hlt⟩
    obtain ⟨b, o, rfl, _⟩ := HR.out.int_at hlt
    have hc0 := HR.out.int_cell hlt hxk
    have y0 := cell_of HB.out hc0
    have hLL : L.length <= 1000000 := by have := HLEN.out k hk; rw [HE0.out, <- HL.out] at this; omega
    have hLS : L.length <= 20000 := by have := HLEN.out k hk; rwa [HE0.out, <- HL.out] at this
    have HP := zH hxk
    have HC := zH (putNum_any (W := W) x hLL HO.out HB.out)
    obtain ⟨L', eL⟩ : ∃ y, L ++ Pk.enc (Pk.held x) = y := ⟨_, rfl⟩
    rw [eL] at HC
    have HEL := zH eL
    clear eL hxk 
    go_wp2_with (first
     | (go_at_call 41; refine HC.out.mono ?_; rintro e w4 ⟨A5, c5, rfl, ho5, hB5, hb5⟩)
     | fail)
    go_roundw
    case rel =>
     refine ⟨k + 1, A5, c5, L', by omega, by go_num, rfl, zH ?_, zH ho5, zH hB5, zH (HU.out.trans hb5)⟩
     rw [<- HEL.out, HL.out, take_snoc HP.out, Pk.encs_snoc]
     simp only [List.append_assoc]
    case measure => simp only [intOf]; omega
  · obtain rfl : k = xs.length := by omega
    go_wp2_with fail
    go_ret
    exact GotPut.is (l := L) ⟨A2, c2, rfl, HO.out, HB.out, HU.out⟩ (by rw [HL.out, List.take_of_length_le lR])
set_option maxHeartbeats 2000000 in
set_option maxRecDepth 100000 in
theorem putEachP_any {W w : World} {A A' : Option Addr} {n c n' c' : Nat} {l : List Nat} {xs : List Pr} (hl : l.length <= 10000) (hn : xs.length <= 100) (hx : ∀ p ∈ xs, p.1.length <= 8 /\ p.2.length <= 16) (ho : OwnB W w A n c l) (hr : RdP W W.heap.size A' n' xs) (hB : Below W.heap.size W w) :
 Calls Tryz.prog 64 #[.slice A n c, .slice A' n' c', .func (.func 65) #[] #[]] w (GotPut W w (l ++ (encN xs.length ++ encP xs))) := by
 obtain rfl := own_len ho
 have hlen : xs.length = n' := hr.length
 subst hlen
 have HR := zH hr
 have HX := zH hx
 have HLEN : Hid (∀ k, k <= xs.length -> (l ++ (encN xs.length ++ encP (xs.take k))).length <= 20000) := zH (fun k hk => by
  have h1 := encN_length xs.length
  have h2 := encP_length (ps := xs.take k) (fun y hy => hx y (List.mem_of_mem_take hy))
  have h3 : (xs.take k).length <= k := List.length_take_le _ _
  simp only [List.length_append]; omega)
 have HC := zH (putNum_any (W := W) (xs.length : Int) (by omega) ho hB)
 obtain ⟨l0, e0⟩ : ∃ x, l ++ Pk.enc (Pk.held (xs.length : Int)) = x := ⟨_, rfl⟩
 rw [e0] at HC
 have HE0 : Hid (∀ y, l ++ (encN xs.length ++ y) = l0 ++ y) := zH (fun y => by rw [<- e0, <- List.append_assoc]; rfl)
 rw [HE0.out] 
 clear ho hB hr e0 hx 
 go_enter Tryz.func64, Tryz.ntmps64
 go_wp2_with (first
  | (go_at_call 41; refine HC.out.mono ?_; rintro e w1 ⟨A1, c1, rfl, ho1, hB1, hb1⟩)
  | fail)
 have HO1 := zH ho1
 have HB1 := zH hB1
 have HU1 := zH hb1
 clear ho1 hB1 hb1 HC
 go_loopw [0, 8, 15] (fun s0 s8 s15 wr => ∃ (k : Nat) (A2 : Option Addr) (c2 : Nat) (L : List Nat), k <= xs.length /\ s15 = .int .i64 (k : Int) /\ s0 = .slice A2 L.length c2 /\ Hid (L = l0 ++ encP (xs.take k)) /\ Hid (OwnB W wr A2 L.length c2 L) /\ Hid (Below W.heap.size W wr) /\ Hid (OnlyB w wr)) (fun _ _ s15 _ => xs.length - (intOf s15).toNat)
 case atStart => exact ⟨0, A1, c1, l0, Nat.zero_le _, rfl, rfl, zH (by simp [encP]), HO1, HB1, HU1⟩
 case round =>
  obtain ⟨k, A2, c2, L, hk, rfl, rfl, HL, HO, HB, HU⟩ := hrel
  by_cases hlt : k < xs.length
  · obtain ⟨b, o, x, A3, c3, A4, c4, rfl, hxk, hc0, hc1, hrd, hrd2⟩ := HR.out.at hlt
    have y0 := cell_of HB.out hc0
    have y1 := cell_of HB.out hc1
    have hLL : L.length <= 1000000 := by have := HLEN.out k hk; rw [HE0.out, <- HL.out] at this; omega
    have hLS : L.length <= 20000 := by have := HLEN.out k hk; rwa [HE0.out, <- HL.out] at this
    have b0 : Below wr.heap.size wr (wr.alloc (.cells #[.slice A3 x.1.length c3, .slice A4 x.2.length c4] 81)) := (Below.refl _ _).alloc lR _
    have HB0 := zH b0
    have HP := zH hxk
    have HC := zH (putPair_any (W := W) (c1 := c3) (c2 := c4) (p := x) (by omega) (Nat.le_trans (HX.out x (List.mem_of_getElem? hxk)).1 (by omega)) (Nat.le_trans (HX.out x (List.mem_of_getElem? hxk)).2 (by omega)) (own_below HO.out b0) hrd hrd2 (HB.out.trans (b0.mono HB.out.size)))
    obtain ⟨L', eL⟩ : ∃ y, L ++ Pk.encB x.1 ++ Pk.encB x.2 = y := ⟨_, rfl⟩
    rw [eL] at HC
    have HEL := zH eL
    clear eL hxk b0
    go_wp2_with (first
     | (go_at_call 65; refine HC.out.mono ?_; rintro e w4 ⟨A5, c5, rfl, ho5, hB5, hb5⟩)
     | fail)
    go_roundw
    case rel =>
     refine ⟨k + 1, A5, c5, L', by omega, by go_num, rfl, zH ?_, zH ho5, zH hB5, zH (HU.out.trans ((OnlyB.of_below HB0.out).trans hb5))⟩
     rw [<- HEL.out, HL.out, take_snoc HP.out, encP_snoc]
     simp only [List.append_assoc]
    case measure => simp only [intOf]; omega
  · obtain rfl : k = xs.length := by omega
    go_wp2_with fail
    go_ret
    exact GotPut.is (l := L) ⟨A2, c2, rfl, HO.out, HB.out, HU.out⟩ (by rw [HL.out, List.take_of_length_le lR])
theorem encT_snoc1 (ls : List Ls) (l : Ls) : encT (ls ++ [l]) = encT ls ++ encL1 l := by simp [encT]
set_option maxHeartbeats 2000000 in
set_option maxRecDepth 100000 in
theorem putEachT_any {W w : World} {A A' : Option Addr} {n c n' c' : Nat} {l : List Nat} {xs : List Ls} (hl : l.length <= 10000) (hn : xs.length <= 100) (hx : ∀ m ∈ xs, m.v.length <= 16) (hm : ∀ m ∈ xs, -1 <= m.n /\ m.n <= 1073741824) (ho : OwnB W w A n c l) (hr : RdL W W.heap.size A' n' xs) (hB : Below W.heap.size W w) :
 Calls Tryz.prog 66 #[.slice A n c, .slice A' n' c', .func (.func 67) #[] #[]] w (GotPut W w (l ++ (encN xs.length ++ encT xs))) := by
 obtain rfl := own_len ho
 have hlen : xs.length = n' := hr.length
 subst hlen
 have HR := zH hr
 have HX := zH hx
 have HM := zH hm
 have HLEN : Hid (∀ k, k <= xs.length -> (l ++ (encN xs.length ++ encT (xs.take k))).length <= 20000) := zH (fun k hk => by
  have h1 := encN_length xs.length
  have h2 := encT_length (ls := xs.take k) (fun y hy => hx y (List.mem_of_mem_take hy))
  have h3 : (xs.take k).length <= k := List.length_take_le _ _
  simp only [List.length_append]; omega)
 have HC := zH (putNum_any (W := W) (xs.length : Int) (by omega) ho hB)
 obtain ⟨l0, e0⟩ : ∃ x, l ++ Pk.enc (Pk.held (xs.length : Int)) = x := ⟨_, rfl⟩
 rw [e0] at HC
 have HE0 : Hid (∀ y, l ++ (encN xs.length ++ y) = l0 ++ y) := zH (fun y => by rw [<- e0, <- List.append_assoc]; rfl)
 rw [HE0.out] 
 clear ho hB hr e0 hx hm
 go_enter Tryz.func66, Tryz.ntmps66
 go_wp2_with (first
  | (go_at_call 41; refine HC.out.mono ?_; rintro e w1 ⟨A1, c1, rfl, ho1, hB1, hb1⟩)
  | fail)
 have HO1 := zH ho1
 have HB1 := zH hB1
 have HU1 := zH hb1
 clear ho1 hB1 hb1 HC
 go_loopw [0, 8, 15] (fun s0 s8 s15 wr => ∃ (k : Nat) (A2 : Option Addr) (c2 : Nat) (L : List Nat), k <= xs.length /\ s15 = .int .i64 (k : Int) /\ s0 = .slice A2 L.length c2 /\ Hid (L = l0 ++ encT (xs.take k)) /\ Hid (OwnB W wr A2 L.length c2 L) /\ Hid (Below W.heap.size W wr) /\ Hid (OnlyB w wr)) (fun _ _ s15 _ => xs.length - (intOf s15).toNat)
 case atStart => exact ⟨0, A1, c1, l0, Nat.zero_le _, rfl, rfl, zH (by simp [encT]), HO1, HB1, HU1⟩
 case round =>
  obtain ⟨k, A2, c2, L, hk, rfl, rfl, HL, HO, HB, HU⟩ := hrel
  by_cases hlt : k < xs.length
  · obtain ⟨b, o, x, A3, c3, rfl, hxk, hc0, hc1, hc2, hc3, hc4, hrd⟩ := HR.out.at hlt
    have y0 := cell_of HB.out hc0
    have y1 := cell_of HB.out hc1
    have y2 := cell_of HB.out hc2
    have y3 := cell_of HB.out hc3
    have y4 := cell_of HB.out hc4
    have hLL : L.length <= 1000000 := by have := HLEN.out k hk; rw [HE0.out, <- HL.out] at this; omega
    have hLS : L.length <= 20000 := by have := HLEN.out k hk; rwa [HE0.out, <- HL.out] at this
    have b0 : Below wr.heap.size wr (wr.alloc (.cells #[.int .i64 x.s, .int .i64 x.q, .int .i64 x.e, .slice A3 x.v.length c3, .int .i64 x.n] 71)) := (Below.refl _ _).alloc lR _
    have HB0 := zH b0
    have HP := zH hxk
    have HC := zH (putLast_any (W := W) (c1 := c3) (m := x) (by omega) (Nat.le_trans (HX.out x (List.mem_of_getElem? hxk)) (by omega)) (HM.out x (List.mem_of_getElem? hxk)) (own_below HO.out b0) hrd (HB.out.trans (b0.mono HB.out.size)))
    obtain ⟨L', eL⟩ : ∃ y, L ++ encL1 x = y := ⟨_, rfl⟩
    rw [eL] at HC
    have HEL := zH eL
    clear eL hxk b0
    go_wp2_with (first
     | (go_at_call 67; refine HC.out.mono ?_; rintro e w4 ⟨A5, c5, rfl, ho5, hB5, hb5⟩)
     | fail)
    go_roundw
    case rel =>
     refine ⟨k + 1, A5, c5, L', by omega, by go_num, rfl, zH ?_, zH ho5, zH hB5, zH (HU.out.trans ((OnlyB.of_below HB0.out).trans hb5))⟩
     rw [<- HEL.out, HL.out, take_snoc HP.out, encT_snoc1]
     simp only [List.append_assoc]
    case measure => simp only [intOf]; omega
  · obtain rfl : k = xs.length := by omega
    go_wp2_with fail
    go_ret
    exact GotPut.is (l := L) ⟨A2, c2, rfl, HO.out, HB.out, HU.out⟩ (by rw [HL.out, List.take_of_length_le lR])
def entL (a : CA) (e : En) : List Value := [.int .i64 e.s, .int .i64 e.q, .int .i64 e.c.kind, .int .i64 e.c.who, .slice a.Ak e.c.key.length a.ck, .slice a.Av e.c.val.length a.cv, .slice a.Ao e.c.old.length a.co]
theorem entL_length (a : CA) (e : En) : (entL a e).length = 7 := rfl
structure CellsE (R : CA -> Cm -> Prop) (vs : List Value) (es : List En) : Prop where
 len : vs.length = es.length * 7
 cell : ∀ (i : Nat) (e : En), es[i]? = some e -> ∃ a, (∀ j v, (entL a e)[j]? = some v -> vs[i * 7 + j]? = some v) /\ R a e.c
section
variable {R R' : CA -> Cm -> Prop} {vs ws : List Value} {es ds : List En}
theorem CellsE.imp (h : CellsE R vs es) (hR : ∀ a c, R a c -> R' a c) : CellsE R' vs es :=
 ⟨h.len, fun i e he => by obtain ⟨a, h1, h2⟩ := h.cell i e he; exact ⟨a, h1, hR _ _ h2⟩⟩
theorem entL_lt {a : CA} {e : En} {j : Nat} {v : Value} (h : (entL a e)[j]? = some v) : j < 7 := by
 rcases Nat.lt_or_ge j 7 with h' | h'
 · exact h'
 · rw [List.getElem?_eq_none (by rw [entL_length]; exact h')] at h; cases h
end
def RdE (w : World) (B : Nat) (A : Option Addr) (n : Nat) (es : List En) : Prop := ∃ vs, Rd w B A (n * 7) vs /\ CellsE (fun a c => RdC w B a c) vs es
section
variable {w w' : World} {B n k : Nat} {A : Option Addr} {es : List En}
theorem RdE.below (h : RdE w B A n es) (hb : Below B w w') : RdE w' B A n es := by obtain ⟨vs, h1, h2⟩ := h; exact ⟨vs, h1.below hb, h2.imp fun _ _ h => h.below hb⟩
theorem RdE.fit (h : RdE w B A n es) : RdE w w.heap.size A n es := by obtain ⟨vs, h1, h2⟩ := h; exact ⟨vs, h1.fit, h2.imp fun _ _ h => h.fit⟩
theorem RdE.length (h : RdE w B A n es) : es.length = n := by
 obtain ⟨vs, h1, h2⟩ := h
 have := h2.len
 rw [h1.1] at this
 omega
theorem RdE.at (h : RdE w B A n es) (hk : k < n) : ∃ b o e a, A = some ⟨b, o, none⟩ /\ es[k]? = some e ∧
 (w.cell? ⟨b, o + k * 7, none⟩ = some (.int .i64 e.s) /\ w.cell? ⟨b, o + k * 7 + 1, none⟩ = some (.int .i64 e.q) /\ w.cell? ⟨b, o + k * 7 + 2, none⟩ = some (.int .i64 e.c.kind) ∧
 w.cell? ⟨b, o + k * 7 + 3, none⟩ = some (.int .i64 e.c.who) /\ w.cell? ⟨b, o + k * 7 + 4, none⟩ = some (.slice a.Ak e.c.key.length a.ck) /\ w.cell? ⟨b, o + k * 7 + 5, none⟩ = some (.slice a.Av e.c.val.length a.cv) /\ w.cell? ⟨b, o + k * 7 + 6, none⟩ = some (.slice a.Ao e.c.old.length a.co)) /\ RdC w B a e.c := by
 have hlen := h.length
 obtain ⟨vs, h1, h2⟩ := h
 obtain ⟨b, o, e1, _, hc⟩ := h1.2 (by omega)
 obtain ⟨e, he⟩ : ∃ e, es[k]? = some e := ⟨_, List.getElem?_eq_getElem (by omega)⟩
 obtain ⟨a, e2, r1⟩ := h2.cell k e he
 have hh : ∀ j v, (entL a e)[j]? = some v -> w.cell? ⟨b, o + k * 7 + j, none⟩ = some v := fun j v hv => by
  have hj := entL_lt hv
  rw [Nat.add_assoc, hc _ (by omega), e2 j v hv]
 exact ⟨b, o, e, a, e1, he, ⟨hh 0 _ rfl, hh 1 _ rfl, hh 2 _ rfl, hh 3 _ rfl, hh 4 _ rfl, hh 5 _ rfl, hh 6 _ rfl⟩, r1⟩
end
section
variable {P : Program} {t e : TypeId} {z : Value} {size bytes : Nat}
end
theorem Rd.rowOther {w w' : World} {B g o n : Nat} {vs : List Value} {row : Option Nat} (h : Rd w B (some ⟨g, o, none⟩) n vs) (hg : w.grownBy w' row) (hne : ∀ k, row = some k -> k ≠ g) : Rd w' w'.heap.size (some ⟨g, o, none⟩) n vs := by
 refine Rd.fit (B := w.heap.size) ⟨h.1, fun hn => ?_⟩
 obtain ⟨b', o', e, hb, hc⟩ := h.fit.2 hn
 injection e with e
 injection e with e1 e2
 subst e1 e2
 refine ⟨_, _, rfl, hb, fun i hi => ?_⟩
 rw [<- hc i hi]
 exact World.cell?_of_block (hg.block _ hb (fun h => hne _ h.symm rfl))
end Go.Proofs.YtlgpglhbbkikpaaGreat
