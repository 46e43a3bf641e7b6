/- MachRefG -/
import Derived.Test.YtmekamgohonffaaGreatBT00
import Derived.Test.YtmekamgohonffaaGreatBT03
import Derived.Test.YtmekamgohonffaaGreatBT15
import Derived.Test.YtmekamgohonffaaGreatBT16
import Derived.Test.YtmekamgohonffaaGreatBT25
namespace Go.Proofs.YtmekamgohonffaaGreat
open Go.RowKit
set_option linter.unusedVariables false
structure OwnC (W w : World) (a : CA) (c : Cm) : Prop where
 k : OwnB W w a.Ak c.key.length a.ck c.key
 v : OwnB W w a.Av c.val.length a.cv c.val
 o : OwnB W w a.Ao c.old.length a.co c.old
theorem OwnC.rd {W w : World} {a : CA} {c : Cm} (h : OwnC W w a c) : RdC w w.heap.size a c := ⟨Rd.own_ h.k, Rd.own_ h.v, Rd.own_ h.o⟩
theorem OwnC.old {W w w' : World} {row : Option Nat} {a : CA} {c : Cm} (h : OwnC W w a c) (hg : w.grownBy w' row) (ho : Old W row) : OwnC W w' a c := ⟨own_old h.k hg ho, own_old h.v hg ho, own_old h.o hg ho⟩
structure RdSt (w wx : World) (B b : Nat) (s : Pk.St) : Prop where
 r : RefAt wx B b s
 only : Only b w wx
theorem RdSt.size {w wx : World} {B b : Nat} {s : Pk.St} (h : RdSt w wx B b s) : w.heap.size <= wx.heap.size := h.only.size
theorem RdSt.call {w wx wy : World} {B b : Nat} {s s' : Pk.St} (h : RdSt w wx B b s) (hr : RefAt wy B b s') (ho : Only b wx wy) : RdSt w wy B b s' := ⟨hr, only_trans h.only ho⟩
theorem RdSt.below {w wx wy : World} {B b : Nat} {s : Pk.St} (h : RdSt w wx B b s) (hb : Below wx.heap.size wx wy) : RdSt w wy B b s := ⟨h.r.below hb, only_below h.only hb h.size⟩
theorem RdSt.set {w wx : World} {B b g i : Nat} {s : Pk.St} {u : Value} (h : RdSt w wx B b s) (hb : b < w.heap.size) (hg : w.heap.size <= g) : RdSt w (wx.setCell ⟨g, i, none⟩ u) B b s := by
 refine ⟨h.r.only (only_set (only_refl g wx) i u) ?_ (by omega), only_below h.only ((Below.refl w.heap.size wx).setCell (p := ⟨g, i, none⟩) hg u) lR⟩
 obtain ⟨_, _, _, _, _, _, _, h5, _⟩ := h.r
 omega
theorem own_read {w wx wy : World} {A : Option Addr} {n c b : Nat} {l : List Nat} (h : OwnB w wx A n c l) (ho : Only b wx wy) (hb : b < w.heap.size) : OwnB w wy A n c l := own_old h ho (Old.some hb)
set_option maxHeartbeats 4000000 in
set_option maxRecDepth 100000 in
theorem refGetEntry_any (w : World) (B b : Nat) (s : Pk.St) (h : RefAt w B b s) :
 Calls Tryz.prog 40 #[.pointer (some ⟨b, 0, none⟩)] w fun en w' => ∃ ca, en = .returned (entV ca (En.read s)) /\ OwnC w w' ca (En.read s).c /\ RefAt w' B b (En.get s).2 /\ Only b w w' := by
 have hbl := h.lt
 have HBL := hD hbl
 have h0 : RdSt w w B b s := ⟨h, only_refl b w⟩
 obtain ⟨R, hR⟩ : ∃ R, En.read s = R := ⟨_, rfl⟩
 obtain ⟨S2, hS2⟩ : ∃ x, (En.get s).2 = x := ⟨_, rfl⟩
 rw [hR, hS2]
 have HRR := hD hR
 have HSS := hD hS2
 clear hR hS2
 have HR0 := hD (h0.below ((Below.refl w.heap.size w).alloc lR (.cells #[.int .i64 0, .int .i64 0, .int .i64 0, .int .i64 0, .slice none 0 0, .slice none 0 0, .slice none 0 0] 43)))
 have HK2 := hD (Blk.new w 43 #[.int .i64 0, .int .i64 0, .int .i64 0, .int .i64 0, .slice none 0 0, .slice none 0 0, .slice none 0 0])
 clear h h0
 go_enter Tryz.func40, Tryz.ntmps40
 go_upto_region 1 with fail
 generalize w.alloc (.cells #[.int .i64 0, .int .i64 0, .int .i64 0, .int .i64 0, .slice none 0 0, .slice none 0 0, .slice none 0 0] 43) = wa at HR0 HK2 |-
 have hne : w.heap.size ≠ b := by omega
 obtain ⟨s1, e1⟩ : ∃ x, Pk.numS s 1073741824 = x := ⟨_, rfl⟩
 obtain ⟨s2, e2⟩ : ∃ x, Pk.numS s1 1073741824 = x := ⟨_, rfl⟩
 obtain ⟨s3, e3⟩ : ∃ x, Pk.numS s2 1073741824 = x := ⟨_, rfl⟩
 obtain ⟨s4, e4⟩ : ∃ x, Pk.numS s3 1073741824 = x := ⟨_, rfl⟩
 obtain ⟨s5, e5⟩ : ∃ x, Pk.bytS s4 32 = x := ⟨_, rfl⟩
 obtain ⟨s6, e6⟩ : ∃ x, Pk.bytS s5 32 = x := ⟨_, rfl⟩
 obtain ⟨s7, e7⟩ : ∃ x, Pk.bytS s6 32 = x := ⟨_, rfl⟩
 obtain ⟨n0, d0⟩ : ∃ x, Pk.numV s 1073741824 = x := ⟨_, rfl⟩
 obtain ⟨n1, d1⟩ : ∃ x, Pk.numV s1 1073741824 = x := ⟨_, rfl⟩
 obtain ⟨n2, d2⟩ : ∃ x, Pk.numV s2 1073741824 = x := ⟨_, rfl⟩
 obtain ⟨n3, d3⟩ : ∃ x, Pk.numV s3 1073741824 = x := ⟨_, rfl⟩
 obtain ⟨v4, d4⟩ : ∃ x, Pk.bytV s4 32 = x := ⟨_, rfl⟩
 obtain ⟨v5, d5⟩ : ∃ x, Pk.bytV s5 32 = x := ⟨_, rfl⟩
 obtain ⟨v6, d6⟩ : ∃ x, Pk.bytV s6 32 = x := ⟨_, rfl⟩
 have HEV : Hid (En.get s = (⟨n0, n1, ⟨n2, n3, v4, v5, v6⟩⟩, s7)) := hD (by
  unfold En.get
  simp only [e1, e2, e3, e4, e5, e6, e7, d0, d1, d2, d3, d4, d5, d6])
 have C0 := hD (fun w h => refrnum_any w B b s 1073741824 h)
 have C1 := hD (fun w h => refrnum_any w B b s1 1073741824 h)
 have C2 := hD (fun w h => refrnum_any w B b s2 1073741824 h)
 have C3 := hD (fun w h => refrnum_any w B b s3 1073741824 h)
 have C4 := hD (fun w h => refrbytes_any w B b s4 32 h)
 have C5 := hD (fun w h => refrbytes_any w B b s5 32 h)
 have C6 := hD (fun w h => refrbytes_any w B b s6 32 h)
 rw [e1, d0] at C0
 rw [e2, d1] at C1
 rw [e3, d2] at C2
 rw [e4, d3] at C3
 rw [e5, d4] at C4
 rw [e6, d5] at C5
 rw [e7, d6] at C6
 clear e1 e2 e3 e4 e5 e6 e7 d0 d1 d2 d3 d4 d5 d6
 go_upto_region 2 with (first
  | (go_at_call 37; refine (C0.out _ HR0.out.r).mono ?_; rintro en w1 ⟨rfl, hr, ho, hz⟩; have HR1 := hD (HR0.out.call hr ho); have HK2 := hD (HK2.out.grown ho (by simpa using hne)); clear hr ho hz C0)
  | (go_at_call 37; refine (C1.out _ HR1.out.r).mono ?_; rintro en w2 ⟨rfl, hr, ho, hz⟩; have hn23 : w.heap.size < w2.heap.size := (HK2.out.grown ho (by simpa using hne)).lt; have HR2 := hD ((HR1.out.call hr ho).below ((Below.refl w2.heap.size w2).alloc lR (.cells #[.int .i64 (n0 : Int), .int .i64 (n1 : Int), .int .i64 0, .int .i64 0, .slice none 0 0, .slice none 0 0, .slice none 0 0] 43))); have HK2 := hD ((HK2.out.grown ho (by simpa using hne)).alloc (.cells #[.int .i64 (n0 : Int), .int .i64 (n1 : Int), .int .i64 0, .int .i64 0, .slice none 0 0, .slice none 0 0, .slice none 0 0] 43)); have HK3 := hD (Blk.new w2 43 #[.int .i64 (n0 : Int), .int .i64 (n1 : Int), .int .i64 0, .int .i64 0, .slice none 0 0, .slice none 0 0, .slice none 0 0]); have HS3 := hD (show w.heap.size <= w2.heap.size from (HR1.out.call hr ho).size); clear hr ho hz C1)
  | fail)
 generalize w2.alloc (.cells #[.int .i64 (n0 : Int), .int .i64 (n1 : Int), .int .i64 0, .int .i64 0, .slice none 0 0, .slice none 0 0, .slice none 0 0] 43) = wb at HR2 HK2 HK3 |-
 have hne3 : w2.heap.size ≠ b := by omega
 go_upto_region 3 with (first
  | (go_at_call 37; refine (C2.out _ HR2.out.r).mono ?_; rintro en w3 ⟨rfl, hr, ho, hz⟩; have HR3 := hD (HR2.out.call hr ho); have HK2 := hD (HK2.out.grown ho (by simpa using hne)); have HK3 := hD (HK3.out.grown ho (by simpa using hne3)); clear hr ho hz C2)
  | (go_at_call 37; refine (C3.out _ HR3.out.r).mono ?_; rintro en w4 ⟨rfl, hr, ho, hz⟩; have HR4 := hD (HR3.out.call hr ho); have HK2 := hD (HK2.out.grown ho (by simpa using hne)); have HK3 := hD (HK3.out.grown ho (by simpa using hne3)); clear hr ho hz C3; obtain ⟨x0, x1, x2, x3, x4, x5, x6⟩ := seven HK3.out; have f2 := HK3.out.frozen 2; have f3 := HK3.out.frozen 3)
  | fail)
 have HR5 := hD ((HR4.out.set (i := 2) (u := .int .i64 (n2 : Int)) hbl HS3.out).set (i := 3) (u := .int .i64 (n3 : Int)) hbl HS3.out)
 have HK2 := hD ((HK2.out.set_other (i := 2) (u := .int .i64 (n2 : Int)) (b := w2.heap.size) (by omega)).set_other (i := 3) (u := .int .i64 (n3 : Int)) (b := w2.heap.size) (by omega))
 have HK3 : Hid (Blk ((w4.setCell ⟨w2.heap.size, 2, none⟩ (.int .i64 (n2 : Int))).setCell ⟨w2.heap.size, 3, none⟩ (.int .i64 (n3 : Int))) w2.heap.size 43 #[.int .i64 (n0 : Int), .int .i64 (n1 : Int), .int .i64 (n2 : Int), .int .i64 (n3 : Int), .slice none 0 0, .slice none 0 0, .slice none 0 0]) := hD ((HK3.out.set_ 2 (.int .i64 (n2 : Int))).set_ 3 (.int .i64 (n3 : Int)))
 clear x0 x1 x2 x3 x4 x5 x6 f2 f3 HR4
 generalize (w4.setCell ⟨w2.heap.size, 2, none⟩ (.int .i64 (n2 : Int))).setCell ⟨w2.heap.size, 3, none⟩ (.int .i64 (n3 : Int)) = wc at HR5 HK2 HK3 |-
 go_upto_region 4 with (first
  | (go_at_call 39; refine (C4.out _ HR5.out.r).mono ?_; rintro en w5 ⟨A4, m4, c4, rfl, hv, hr, ho⟩; obtain rfl := own_len hv; have hv := own_of HR5.out.size hv; have HR6 := hD (HR5.out.call hr ho); have HK2 := hD (HK2.out.grown ho (by simpa using hne)); have HK3 := hD (HK3.out.grown ho (by simpa using hne3)); have HV4 := hD hv; clear hv hr ho C4)
  | (go_at_call 39; refine (C5.out _ HR6.out.r).mono ?_; rintro en w6 ⟨A5, m5, c5, rfl, hv, hr, ho⟩; obtain rfl := own_len hv; have hv := own_of HR6.out.size hv; have HR7 := hD (HR6.out.call hr ho); have HK2 := hD (HK2.out.grown ho (by simpa using hne)); have HK3 := hD (HK3.out.grown ho (by simpa using hne3)); have HV4 := hD (own_read HV4.out ho HBL.out); have HV5 := hD hv; clear hv hr ho C5)
  | (go_at_call 39; refine (C6.out _ HR7.out.r).mono ?_; rintro en w7 ⟨A6, m6, c6, rfl, hv, hr, ho⟩; obtain rfl := own_len hv; have hv := own_of HR7.out.size hv; have HR8 := hD (HR7.out.call hr ho); have HK2 := hD (HK2.out.grown ho (by simpa using hne)); have HK3 := hD (HK3.out.grown ho (by simpa using hne3)); have HV4 := hD (own_read HV4.out ho HBL.out); have HV5 := hD (own_read HV5.out ho HBL.out); have HV6 := hD hv; clear hv hr ho C6; obtain ⟨x0, x1, x2, x3, x4, x5, x6⟩ := seven HK3.out; have f4 := HK3.out.frozen 4; have f5 := HK3.out.frozen 5; have f6 := HK3.out.frozen 6)
  | fail)
 have HR9 := hD (((HR8.out.set (i := 4) (u := .slice A4 v4.length c4) hbl HS3.out).set (i := 5) (u := .slice A5 v5.length c5) hbl HS3.out).set (i := 6) (u := .slice A6 v6.length c6) hbl HS3.out)
 have HK2 := hD (((HK2.out.set_other (i := 4) (u := .slice A4 v4.length c4) (b := w2.heap.size) (by omega)).set_other (i := 5) (u := .slice A5 v5.length c5) (b := w2.heap.size) (by omega)).set_other (i := 6) (u := .slice A6 v6.length c6) (b := w2.heap.size) (by omega))
 have k1 := HK3.out
 have k2 := k1.set_ 4 (.slice A4 v4.length c4)
 have k3 := k2.set_ 5 (.slice A5 v5.length c5)
 have hset : ∀ {A : Option Addr} {n c : Nat} {l : List Nat}, OwnB w w7 A n c l -> OwnB w (((w7.setCell ⟨w2.heap.size, 4, none⟩ (.slice A4 v4.length c4)).setCell ⟨w2.heap.size, 5, none⟩ (.slice A5 v5.length c5)).setCell ⟨w2.heap.size, 6, none⟩ (.slice A6 v6.length c6)) A n c l := fun h => own_set_t (own_set_t (own_set_t h k1 (by decide)) k2 (by decide)) k3 (by decide)
 have HOC : Hid (OwnC w (((w7.setCell ⟨w2.heap.size, 4, none⟩ (.slice A4 v4.length c4)).setCell ⟨w2.heap.size, 5, none⟩ (.slice A5 v5.length c5)).setCell ⟨w2.heap.size, 6, none⟩ (.slice A6 v6.length c6)) ⟨A4, c4, A5, c5, A6, c6⟩ ⟨n2, n3, v4, v5, v6⟩) := hD ⟨hset HV4.out, hset HV5.out, hset HV6.out⟩
 have HK3 : Hid (Blk (((w7.setCell ⟨w2.heap.size, 4, none⟩ (.slice A4 v4.length c4)).setCell ⟨w2.heap.size, 5, none⟩ (.slice A5 v5.length c5)).setCell ⟨w2.heap.size, 6, none⟩ (.slice A6 v6.length c6)) w2.heap.size 43 #[.int .i64 (n0 : Int), .int .i64 (n1 : Int), .int .i64 (n2 : Int), .int .i64 (n3 : Int), .slice A4 v4.length c4, .slice A5 v5.length c5, .slice A6 v6.length c6]) := hD (k3.set_ 6 (.slice A6 v6.length c6))
 clear x0 x1 x2 x3 x4 x5 x6 f4 f5 f6 HR8 HV4 HV5 HV6 k1 k2 k3 hset
 generalize ((w7.setCell ⟨w2.heap.size, 4, none⟩ (.slice A4 v4.length c4)).setCell ⟨w2.heap.size, 5, none⟩ (.slice A5 v5.length c5)).setCell ⟨w2.heap.size, 6, none⟩ (.slice A6 v6.length c6) = wd at HR9 HK2 HK3 HOC |-
 obtain ⟨Ar, nr, cr, hblk, _, _, _, _, _⟩ := HR9.out.r
 have hbad : wd.cell? ⟨b, 1, none⟩ = some (.bool s7.isNone) := hblk.cell 1
 obtain ⟨x0, x1, x2, x3, x4, x5, x6⟩ := seven HK2.out
 obtain ⟨y0, y1, y2, y3, y4, y5, y6⟩ := seven HK3.out
 have f0 := HK2.out.frozen 0
 have f1 := HK2.out.frozen 1
 have f2 := HK2.out.frozen 2
 have f3 := HK2.out.frozen 3
 have f4 := HK2.out.frozen 4
 have f5 := HK2.out.frozen 5
 have f6 := HK2.out.frozen 6
 have hfin : ∀ (a : CA) (e : En), OwnC w wd a e.c -> let wy := (((((((wd.setCell ⟨w.heap.size, 0, none⟩ (.int .i64 e.s)).setCell ⟨w.heap.size, 1, none⟩ (.int .i64 e.q)).setCell ⟨w.heap.size, 2, none⟩ (.int .i64 e.c.kind)).setCell ⟨w.heap.size, 3, none⟩ (.int .i64 e.c.who)).setCell ⟨w.heap.size, 4, none⟩ (.slice a.Ak e.c.key.length a.ck)).setCell ⟨w.heap.size, 5, none⟩ (.slice a.Av e.c.val.length a.cv)).setCell ⟨w.heap.size, 6, none⟩ (.slice a.Ao e.c.old.length a.co)); Blk wy w.heap.size 43 (entC a e) /\ OwnC w wy a e.c /\ RdSt w wy B b s7 := by
  intro a e hoc
  simp only
  have q0 := HK2.out
  have q1 := q0.set_ 0 (.int .i64 e.s)
  have q2 := q1.set_ 1 (.int .i64 e.q)
  have q3 := q2.set_ 2 (.int .i64 e.c.kind)
  have q4 := q3.set_ 3 (.int .i64 e.c.who)
  have q5 := q4.set_ 4 (.slice a.Ak e.c.key.length a.ck)
  have q6 := q5.set_ 5 (.slice a.Av e.c.val.length a.cv)
  have q7 := q6.set_ 6 (.slice a.Ao e.c.old.length a.co)
  have hq : ∀ {A : Option Addr} {n c : Nat} {l : List Nat}, OwnB w wd A n c l -> OwnB w (((((((wd.setCell ⟨w.heap.size, 0, none⟩ (.int .i64 e.s)).setCell ⟨w.heap.size, 1, none⟩ (.int .i64 e.q)).setCell ⟨w.heap.size, 2, none⟩ (.int .i64 e.c.kind)).setCell ⟨w.heap.size, 3, none⟩ (.int .i64 e.c.who)).setCell ⟨w.heap.size, 4, none⟩ (.slice a.Ak e.c.key.length a.ck)).setCell ⟨w.heap.size, 5, none⟩ (.slice a.Av e.c.val.length a.cv)).setCell ⟨w.heap.size, 6, none⟩ (.slice a.Ao e.c.old.length a.co)) A n c l := fun h =>
   own_set_t (own_set_t (own_set_t (own_set_t (own_set_t (own_set_t (own_set_t h q0 (by decide)) q1 (by decide)) q2 (by decide)) q3 (by decide)) q4 (by decide)) q5 (by decide)) q6 (by decide)
  have hl := Nat.le_refl w.heap.size
  have hbl := HBL.out
  exact ⟨q7, ⟨hq hoc.k, hq hoc.v, hq hoc.o⟩, ((((((HR9.out.set hbl hl).set hbl hl).set hbl hl).set hbl hl).set hbl hl).set hbl hl).set hbl hl⟩
 have HFIN := hD hfin
 clear hfin hblk
 cases s7 with
 | none =>
   simp only [Option.isNone_none] at hbad
   go_wp2_with fail
   obtain ⟨p1, p2, p3⟩ := HFIN.out ⟨none, 0, none, 0, none, 0⟩ En.zero ⟨own_nil _ _, own_nil _ _, own_nil _ _⟩
   refine bodyPost_ret (results_cell_row rfl _ _ _ _ _ _ _ rfl p1 Tryz.underlying43 rfl (by kernel_rfl)) rfl ?_
   have hR : R = En.zero := by rw [<- HRR.out]; unfold En.read; rw [HEV.out, if_pos rfl]
   have hS : S2 = none := by rw [<- HSS.out, HEV.out]
   subst hR hS
   exact ⟨_, rfl, p2, p3.r, p3.only⟩
 | some l7 =>
   simp only [Option.isNone_some] at hbad
   go_wp2_with fail
   obtain ⟨p1, p2, p3⟩ := HFIN.out ⟨A4, c4, A5, c5, A6, c6⟩ ⟨n0, n1, ⟨n2, n3, v4, v5, v6⟩⟩ HOC.out
   refine bodyPost_ret (results_cell_row rfl _ _ _ _ _ _ _ rfl p1 Tryz.underlying43 rfl (by kernel_rfl)) rfl ?_
   have hR : R = ⟨n0, n1, ⟨n2, n3, v4, v5, v6⟩⟩ := by rw [<- HRR.out]; unfold En.read; rw [HEV.out, if_neg (by simp)]
   have hS : S2 = some l7 := by rw [<- HSS.out, HEV.out]
   subst hR hS
   exact ⟨_, rfl, p2, p3.r, p3.only⟩
end Go.Proofs.YtmekamgohonffaaGreat
