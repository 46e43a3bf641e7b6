/- BlobState MachDec -/
import Derived.Test.YtmekamgohonffaaGreatBT0H
import Derived.Test.YtmekamgohonffaaGreatBT00
import Derived.Test.YtmekamgohonffaaGreatBT17
import Derived.Test.YtmekamgohonffaaGreatBT38
import Derived.Test.YtmekamgohonffaaGreatBT40
import Derived.Test.YtmekamgohonffaaGreatBT41
import Derived.Test.YtmekamgohonffaaGreatBT43
import Derived.Test.YtmekamgohonffaaGreatBT44
import Derived.Test.YtmekamgohonffaaGreatBT51
import Derived.Deep.MidRow
import Derived.Laws.CopyOwn
namespace Go.Proofs.YtmekamgohonffaaGreat
open Go.RowKit
set_option linter.unusedVariables false
theorem Blk.putS {w : World} {g : Nat} {t : TypeId} {old : Array Value} (h : Blk w g t old) (cs : Array Value) : Blk (w.setRow g cs) g t cs := setRow_heap w g old cs t (0, 0) h
theorem noByte_st (p : Int) (A1 A2 A3 A4 A5 A6 : Option Addr) (n1 c1 n2 c2 n3 c3 n4 c4 n5 c5 n6 c6 : Nat) : NoByte #[.int .i64 p, .slice A1 n1 c1, .slice A2 n2 c2, .slice A3 n3 c3, .slice A4 n4 c4, .slice A5 n5 c5, .slice A6 n6 c6] := by
 intro j x h
 match j with
 | 0 => simp at h
 | 1 => simp at h
 | 2 => simp at h
 | 3 => simp at h
 | 4 => simp at h
 | 5 => simp at h
 | 6 => simp at h
 | (n + 7) => simp at h
theorem RdC.setRowS {w : World} {B b : Nat} {t : TypeId} {cs c : Array Value} {a : CA} {k : Cm} (h : RdC w B a k) (hb : Blk w b t cs) (hk : NoByte cs) : RdC (w.setRow b c) (w.setRow b c).heap.size a k := by
 have hr : ∀ {A : Option Addr} {n : Nat} {l : List Nat}, Rd w B A n (bv l) -> Rd (w.setRow b c) (w.setRow b c).heap.size A n (bv l) := by
  intro A n l h
  have h := h.fit
  refine ⟨h.1, fun hn => ?_⟩
  obtain ⟨g, o, e1, hlt, e3⟩ := h.2 hn
  refine ⟨g, o, e1, by simpa using hlt, fun i hi => ?_⟩
  have hne : g ≠ b := by
   rintro rfl
   have h3 := e3 i hi
   have hlen := h.1
   rw [bv_length] at hlen
   have hv : (bv l)[i]? = some (.int .u8 ((l[i]'(by omega) : Nat) : Int)) := bv_get (by omega)
   rw [hv, hb.cell] at h3
   exact hk _ _ h3
  rw [cell_setRow_other w b c ⟨g, o + i, none⟩ hne]
  exact e3 i hi
 exact ⟨hr h.rk, hr h.rv, hr h.ro⟩
structure StS (w1 wx : World) (g g6 : Nat) (p : Int) (aM : MA) (m : Mc) (A : Option Addr) (k c : Nat) (es : List En) : Prop where
 blk : Blk wx g 34 #[.int .i64 p, .slice aM.o.A0 m.o.reg.length aM.o.c0, .slice aM.o.A1 m.o.q.length aM.o.c1, .slice aM.o.A2 m.o.lk.length aM.o.c2, .slice aM.o.A3 m.o.mp.length aM.o.c3, .slice aM.At m.t.length aM.ct, .slice A k c]
 res : Blk wx g6 34 #[.int .i64 0, .slice none 0 0, .slice none 0 0, .slice none 0 0, .slice none 0 0, .slice none 0 0, .slice none 0 0]
 own : OwnE w1 wx A k c es
 bel : Below w1.heap.size w1 wx
 hg : w1.heap.size <= g
 h6 : g6 ≠ g
section
variable {w1 wx wy : World} {g g6 : Nat} {p : Int} {aM : MA} {m : Mc} {A : Option Addr} {k c : Nat} {es : List En}
theorem StS.below (h : StS w1 wx g g6 p aM m A k c es) (hb : Below wx.heap.size wx wy) : StS w1 wy g g6 p aM m A k c es := ⟨h.blk.below hb, h.res.below hb, h.own.below hb, h.bel.trans (hb.mono h.bel.size), h.hg, h.h6⟩
theorem StS.apart (h : StS w1 wx g g6 p aM m A k c es) (hs : wx.heap.size <= wy.heap.size) : ∀ q, (Value.slice A k c).ownBlock = some q -> q ≠ wy.heap.size := fun q hq => by
 obtain ⟨vs, q1, _⟩ := h.own
 have := (q1.lt q hq).2
 omega
theorem StS.ent (h : StS w1 wx g g6 p aM m A k c es) {b i : Nat} {u : Value} {cs : Array Value} (hb : Blk wx b 43 cs) (hk : NoByte cs) (hne : ∀ q, (Value.slice A k c).ownBlock = some q -> q ≠ b) (hw : w1.heap.size <= b) : StS w1 (wx.setCell ⟨b, i, none⟩ u) g g6 p aM m A k c es := by
 refine ⟨h.blk.set_other (h.blk.apart hb (by decide)), h.res.set_other (h.res.apart hb (by decide)), ?_, h.bel.setCell hw _, h.hg, h.h6⟩
 obtain ⟨vs, q1, q2⟩ := h.own
 exact ⟨vs, q1.kept (grown_set wx b i u) (Or.inr (fun h => hne _ h rfl)), q2.imp fun _ _ h => ⟨h.1.setK hb hk, h.2⟩⟩
theorem StS.more (h : StS w1 wx g g6 p aM m A k c es) {A3 : Option Addr} {c3 : Nat} {es3 : List En} (hg : wx.grownBy wy (Value.slice A k c).ownBlock) (hb : Below w1.heap.size w1 wy) (ho : OwnE w1 wy A3 (k + 1) c3 es3) : StS w1 (wy.setCell ⟨g, 6, none⟩ (.slice A3 (k + 1) c3)) g g6 p aM m A3 (k + 1) c3 es3 := by
 obtain ⟨vs, q1, _⟩ := h.own
 have k1 := h.blk.apart_own q1 (by decide) hg
 have k2 := h.res.apart_own q1 (by decide) hg
 refine ⟨k1.set_ 6 _, k2.set_other h.h6, ?_, hb.setCell h.hg _, h.hg, h.h6⟩
 obtain ⟨us, r1, r2⟩ := ho
 exact ⟨us, own_set_t r1 k1 (by decide), r2.imp fun _ _ h => ⟨h.1.setK k1 (noByte_st _ _ _ _ _ _ _ _ _ _ _ _ _ _ _ _ _ _ _), h.2⟩⟩
end
theorem entState (z : Int) (k : Nat) (hk : k <= 31) (w : World) : Calls Tryz.prog 22 #[.int .i64 z, .int .i64 ((k : Int) + 20)] w fun en w' => ∃ ca e, en = .returned (.agg #[.int .i64 e.s, .int .i64 e.q, .int .i64 e.c.kind, .int .i64 e.c.who, .slice ca.Ak e.c.key.length ca.ck, .slice ca.Av e.c.val.length ca.cv, .slice ca.Ao e.c.old.length ca.co]) /\ (entMax e).ok = true /\ e.c.Fits /\ RdC w' w'.heap.size ca e.c /\ ca.Z /\ Below w.heap.size w w' := by
 have q := entDZ_any z (k + 20) (by omega) w
 rw [show (((k + 20 : Nat)) : Int) = (k : Int) + 20 by omega] at q
 exact q.mono fun en w' ⟨ca, h1, h2, h3, h4, h5⟩ => ⟨ca, entOf z (k + 20), h1, entMax_ok z (k + 20) (by omega), h2, h3, h4, h5⟩
set_option maxHeartbeats 2000000 in
set_option maxRecDepth 100000 in
theorem state15 (w : World) {A : Option Addr} {n c B : Nat} {zs : List Int} (pos rest : Int) (hn : n <= maxLen) (h : Rd w B A n (iv zs)) :
 Calls Tryz.prog 7 #[.slice A n c, .int .i64 pos, .int .i64 rest] w fun en w' => ∃ a s, en = .returned (stateV a s) /\ s.Ok /\ s.rest.length <= 31 /\ (∀ e ∈ s.rest, e.c.Fits) /\ RdS w' w'.heap.size a s /\ Below w.heap.size w w' := by
 have a31 := and_31 rest
 have aff := and_ffff pos
 have a7 := fun k : Int => and_7 k
 have H := zH h.fit
 clear h
 obtain ⟨R, hR, hR31⟩ : ∃ R : Nat, rest % 32 = (R : Int) /\ R <= 31 := ⟨(rest % 32).toNat, by omega, by omega⟩
 rw [hR] at a31
 obtain ⟨p, hp, hp0, hp1⟩ : ∃ p, pos % 65536 = p /\ 0 <= p /\ p < 65536 := ⟨_, rfl, by omega, by omega⟩
 rw [hp] at aff
 clear hR hp
 go_enter Tryz.func7, Tryz.ntmps7
 go_upto_region 1 with fail
 obtain ⟨g6, wa, hg6, hwa, hk6, hba⟩ : ∃ g6 wa, w.heap.size = g6 /\ w.alloc (.cells #[.int .i64 0, .slice none 0 0, .slice none 0 0, .slice none 0 0, .slice none 0 0, .slice none 0 0, .slice none 0 0] 34) = wa /\ Blk wa g6 34 #[.int .i64 0, .slice none 0 0, .slice none 0 0, .slice none 0 0, .slice none 0 0, .slice none 0 0, .slice none 0 0] /\ Below w.heap.size w wa := ⟨_, _, rfl, rfl, Blk.new _ _ _, (Below.refl _ _).alloc lR _⟩
 rw [hg6, hwa]
 have HK6 := zH hk6
 have HBa := zH hba
 have HG6 := zH (Nat.le_of_eq hg6)
 clear hg6 hwa hk6 hba
 go_upto_region 2 with (first
  | (go_at_call 21; refine (machine_any hn _ (H.out.below HBa.out)).mono ?_; rintro e w1 ⟨aM, m, rfl, hok, hown, hb⟩; unfold machV machC
     have HOK := zH hok
     have HRM := zH hown
     have HB1 := zH (HBa.out.trans (hb.mono HBa.out.size))
     have HK61 := zH (HK6.out.below hb)
     clear hok hown hb)
  | (refine wpList_store_row rfl 34 (.tmp 7) (.tmp 14) rfl w1.heap.size #[.int .i64 p, .slice aM.o.A0 m.o.reg.length aM.o.c0, .slice aM.o.A1 m.o.q.length aM.o.c1, .slice aM.o.A2 m.o.lk.length aM.o.c2, .slice aM.o.A3 m.o.mp.length aM.o.c3, .slice aM.At m.t.length aM.ct, .slice none 0 0] rfl rfl 34 #[.int .i64 0, .slice none 0 0, .slice none 0 0, .slice none 0 0, .slice none 0 0, .slice none 0 0, .slice none 0 0] (Blk.new w1 34 #[.int .i64 0, .slice none 0 0, .slice none 0 0, .slice none 0 0, .slice none 0 0, .slice none 0 0, .slice none 0 0]) (by kernel_rfl) rfl (by kernel_rfl) ?_)
  | fail)
 obtain ⟨g, hg⟩ : ∃ g, w1.heap.size = g := ⟨_, rfl⟩
 have hs0 : StS w1 ((w1.alloc (.cells #[.int .i64 0, .slice none 0 0, .slice none 0 0, .slice none 0 0, .slice none 0 0, .slice none 0 0, .slice none 0 0] 34)).setRow w1.heap.size #[.int .i64 p, .slice aM.o.A0 m.o.reg.length aM.o.c0, .slice aM.o.A1 m.o.q.length aM.o.c1, .slice aM.o.A2 m.o.lk.length aM.o.c2, .slice aM.o.A3 m.o.mp.length aM.o.c3, .slice aM.At m.t.length aM.ct, .slice none 0 0]) g g6 p aM m none 0 0 [] := by
  subst hg
  have k6 := HK61.out.lt
  exact ⟨Blk.putS (Blk.new w1 34 #[.int .i64 0, .slice none 0 0, .slice none 0 0, .slice none 0 0, .slice none 0 0, .slice none 0 0, .slice none 0 0]) _, (HK61.out.alloc _).row_other (by omega) _, OwnE.nil _ _, below_setRow ((Below.refl _ _).alloc lR _) lR _, Nat.le_refl _, by omega⟩
 generalize ((w1.alloc (.cells #[.int .i64 0, .slice none 0 0, .slice none 0 0, .slice none 0 0, .slice none 0 0, .slice none 0 0, .slice none 0 0] 34)).setRow w1.heap.size #[.int .i64 p, .slice aM.o.A0 m.o.reg.length aM.o.c0, .slice aM.o.A1 m.o.q.length aM.o.c1, .slice aM.o.A2 m.o.lk.length aM.o.c2, .slice aM.o.A3 m.o.mp.length aM.o.c3, .slice aM.At m.t.length aM.ct, .slice none 0 0]) = wb at hs0 |-
 rw [hg]
 have HS := zH hs0
 clear hs0 hg
 go_upto_region 3 with fail
 go_loopw [8] (fun s8 wr => ∃ (k : Nat) (A : Option Addr) (c : Nat) (es : List En), k <= R /\ es.length = k /\ s8 = .int .i64 (k : Int) /\ Hid (0 < k \/ A = none) /\ Hid (∀ e ∈ es, e.ok = true /\ e.c.Fits) /\ Hid (StS w1 wr g g6 p aM m A k c es)) (fun s _ => R - (intOf s).toNat)
 case atStart => exact ⟨0, none, 0, [], by omega, rfl, rfl, zH (Or.inr rfl), zH (by simp), HS⟩
 case round =>
  have HLW := zH HK61.out.lt
  have HLT6 := zH HK6.out.lt
  clear HS HK61 HK6 HBa H
  obtain ⟨k, A1, c1, es, hkR, hes, rfl, HN0, HF, HS⟩ := hrel
  by_cases hlt : k < R
  · have hk31 : k <= 31 := by omega
    have HCE : Hid (∀ z wx, Calls Tryz.prog 22 #[.int .i64 z, .int .i64 ((k : Int) + 20)] wx fun en w' => ∃ ca e, en = .returned (.agg #[.int .i64 e.s, .int .i64 e.q, .int .i64 e.c.kind, .int .i64 e.c.who, .slice ca.Ak e.c.key.length ca.ck, .slice ca.Av e.c.val.length ca.cv, .slice ca.Ao e.c.old.length ca.co]) /\ (entMax e).ok = true /\ e.c.Fits /\ RdC w' w'.heap.size ca e.c /\ ca.Z /\ Below wx.heap.size wx w') := zH (fun z wx => entState z k hk31 wx)
    have hw1 : IntKind.i64.wrap ((k : Int) + 20) = (k : Int) + 20 := IntWalk.i64_in _ (by omega)
    have hw2 : IntKind.i64.wrap ((k : Int) + 1) = (k : Int) + 1 := IntWalk.i64_in _ (by omega)
    have hkRi : (k : Int) < (R : Int) := by omega
    have hk8 : (0 : Int) <= (k : Int) % 8 /\ (k : Int) % 8 < 8 := by omega
    obtain ⟨k7, hk7, hk78⟩ : ∃ j : Nat, bits .and .i64 (k : Int) 7 = (j : Int) /\ j < 8 := ⟨((k : Int) % 8).toNat, by rw [and_7]; omega, by omega⟩
    have hw3 : IntKind.u64.wrap (k7 : Int) = (k7 : Int) := IntWalk.u64_in _ (by omega)
    clear hk8 a7
    go_upto_region 6 with (first
     | (go_at_call 22; refine (HCE.out _ _).mono ?_; rintro en w2 ⟨ca, e, rfl, hok, hf, hr, hzz, hb⟩)
     | fail)
    have bb : Below w2.heap.size w2 (w2.alloc (.cells #[.int .i64 e.s, .int .i64 e.q, .int .i64 e.c.kind, .int .i64 e.c.who, .slice ca.Ak e.c.key.length ca.ck, .slice ca.Av e.c.val.length ca.cv, .slice ca.Ao e.c.old.length ca.co] 43)) := (Below.refl _ _).alloc lR _
    have HK := zH (Blk.new w2 43 #[.int .i64 e.s, .int .i64 e.q, .int .i64 e.c.kind, .int .i64 e.c.who, .slice ca.Ak e.c.key.length ca.ck, .slice ca.Av e.c.val.length ca.cv, .slice ca.Ao e.c.old.length ca.co])
    have HRC := zH (hr.below' bb)
    have HS2 := zH ((HS.out.below hb).below bb)
    have HZ := zH hzz
    have HFE := zH hf
    have HOK2 := zH hok
    have HGE : Hid (w1.heap.size <= w2.heap.size) := zH (Nat.le_trans HS.out.bel.size hb.size)
    have HNE := zH (HS.out.apart hb.size)
    clear hr hzz hf hok hb bb
    obtain ⟨ge, hge⟩ : ∃ ge, w2.heap.size = ge := ⟨_, rfl⟩
    rw [hge] at HK HGE HNE |-
    generalize w2.alloc (.cells #[.int .i64 e.s, .int .i64 e.q, .int .i64 e.c.kind, .int .i64 e.c.who, .slice ca.Ak e.c.key.length ca.ck, .slice ca.Av e.c.val.length ca.cv, .slice ca.Ao e.c.old.length ca.co] 43) = wa at HK HRC HS2 |-
    have x3 : wa.cell? ⟨ge, 3, none⟩ = some (.int .i64 e.c.who) := HK.out.cell 3
    have f3 := HK.out.frozen 3
    go_upto_region 7 with fail
    have k0 := noByte_ent e.s e.q e.c.kind e.c.who ca.Ak ca.Av ca.Ao e.c.key.length ca.ck e.c.val.length ca.cv e.c.old.length ca.co
    obtain ⟨e2, he2⟩ : ∃ e2, entMax e = e2 := ⟨_, rfl⟩
    have HKE : Hid (Blk (wa.setCell ⟨ge, 3, none⟩ (.int .i64 (if e.c.who < 0 then 0 else e.c.who))) ge 43 #[.int .i64 e2.s, .int .i64 e2.q, .int .i64 e2.c.kind, .int .i64 e2.c.who, .slice ca.Ak e2.c.key.length ca.ck, .slice ca.Av e2.c.val.length ca.cv, .slice ca.Ao e2.c.old.length ca.co]) := zH (by rw [<- he2]; exact HK.out.set_ 3 _)
    have HRC2 : Hid (RdC (wa.setCell ⟨ge, 3, none⟩ (.int .i64 (if e.c.who < 0 then 0 else e.c.who))) (wa.setCell ⟨ge, 3, none⟩ (.int .i64 (if e.c.who < 0 then 0 else e.c.who))).heap.size ca e2.c) := zH (by
     rw [<- he2]
     have q := HRC.out.setK (i := 3) (u := .int .i64 (if e.c.who < 0 then 0 else e.c.who)) HK.out k0
     exact ⟨q.rk, q.rv, q.ro⟩)
    have HS3 := zH (HS2.out.ent (i := 3) (u := .int .i64 (if e.c.who < 0 then 0 else e.c.who)) HK.out k0 HNE.out HGE.out)
    have HF2 : Hid (e2.ok = true /\ e2.c.Fits) := zH (by
     rw [<- he2]
     have q := HFE.out
     exact ⟨HOK2.out, ⟨q.key, q.val, q.old⟩⟩)
    clear x3 f3 k0 HK HRC HS2 he2
    generalize wa.setCell ⟨ge, 3, none⟩ (.int .i64 (if e.c.who < 0 then 0 else e.c.who)) = wf at HKE HRC2 HS3 |-
    obtain ⟨x0, x1, x2, x3, x4, x5, x6⟩ := seven HKE.out
    have y6 : wf.cell? ⟨g, 6, none⟩ = some (.slice A1 k c1) := HS3.out.blk.cell 6
    obtain ⟨vs, q1, q2⟩ := HS3.out.own
    have b1 : Below wf.heap.size wf (wf.alloc (.cells #[.int .i64 e2.s, .int .i64 e2.q, .int .i64 e2.c.kind, .int .i64 e2.c.who, .slice ca.Ak e2.c.key.length ca.ck, .slice ca.Av e2.c.val.length ca.cv, .slice ca.Ao e2.c.old.length ca.co] 43)) := (Below.refl _ _).alloc lR _
    have hq1 := ownsRow_below q1 b1
    have HS4 := zH (HS3.out.below b1)
    have HQ2 := zH q2
    have HB1 := zH b1
    clear q1 q2 b1
    go_wp2_with (first
     | (at_builtin
        refine wpList_append_E (W := w1) cellE (.tmp 39) (.tmp 41) rfl (by rfl) rfl hq1 rfl (Rd.entAt _ ca e2 _ rfl) (entL_one _ _) (by omega) (by omega) (HS3.out.bel.alloc HS3.out.bel.size _) ?_
        intro A3 c3 w3 hown3 hB3 hg3
        have hoe : OwnE w1 w3 A3 (k + 1) c3 (es ++ [e2]) := OwnE.snoc hq1 (HQ2.out.imp fun _ _ h => ⟨h.1.below' HB1.out, h.2⟩) (HRC2.out.below' HB1.out) HZ.out HN0.out hg3 hown3
        have HS5 := zH (HS4.out.more hg3 hB3 hoe)
        obtain ⟨vs4, r4, _⟩ := HS4.out.own
        have bk4 := HS4.out.blk.apart_own r4 (by decide) hg3
        have y6' : w3.cell? ⟨g, 6, none⟩ = some (.slice A1 k c1) := bk4.cell 6
        have f6' := bk4.frozen 6
        clear r4 bk4 hoe hown3 hB3 hg3)
     | fail)
    go_roundw
    case rel =>
     refine ⟨k + 1, A3, c3, es ++ [e2], by omega, by simp [hes], by go_num, zH (Or.inl (by omega)), zH ?_, HS5⟩
     intro e' he'
     rcases List.mem_append.1 he' with h1 | h1
     · exact HF.out e' h1
     · simp only [List.mem_cons, List.not_mem_nil, or_false] at h1
       subst h1
       exact HF2.out
    case measure => simp only [intOf]; omega
  · have hkn : ¬ (k : Int) < (R : Int) := by omega
    go_wp2_with (first
     | (refine wpList_load_row rfl 34 (.tmp 7) rfl g rfl 34 #[.int .i64 p, .slice aM.o.A0 m.o.reg.length aM.o.c0, .slice aM.o.A1 m.o.q.length aM.o.c1, .slice aM.o.A2 m.o.lk.length aM.o.c2, .slice aM.o.A3 m.o.mp.length aM.o.c3, .slice aM.At m.t.length aM.ct, .slice A1 k c1] (0, 0) _ HS.out.blk Tryz.underlying34 rfl (by kernel_rfl) ?_)
     | (refine wpList_store_row rfl 34 (.tmp 6) (.tmp 44) rfl g6 #[.int .i64 p, .slice aM.o.A0 m.o.reg.length aM.o.c0, .slice aM.o.A1 m.o.q.length aM.o.c1, .slice aM.o.A2 m.o.lk.length aM.o.c2, .slice aM.o.A3 m.o.mp.length aM.o.c3, .slice aM.At m.t.length aM.ct, .slice A1 k c1] rfl rfl 34 #[.int .i64 0, .slice none 0 0, .slice none 0 0, .slice none 0 0, .slice none 0 0, .slice none 0 0, .slice none 0 0] HS.out.res (by kernel_rfl) rfl (by kernel_rfl) ?_)
     | fail)
    refine bodyPost_ret (results_cell_row rfl _ _ _ _ _ _ _ rfl (Blk.putS HS.out.res #[.int .i64 p, .slice aM.o.A0 m.o.reg.length aM.o.c0, .slice aM.o.A1 m.o.q.length aM.o.c1, .slice aM.o.A2 m.o.lk.length aM.o.c2, .slice aM.o.A3 m.o.mp.length aM.o.c3, .slice aM.At m.t.length aM.ct, .slice A1 k c1]) Tryz.underlying34 rfl (by kernel_rfl)) rfl ?_
    subst hes
    have hbelE : Below w.heap.size w (wr.setRow g6 #[.int .i64 p, .slice aM.o.A0 m.o.reg.length aM.o.c0, .slice aM.o.A1 m.o.q.length aM.o.c1, .slice aM.o.A2 m.o.lk.length aM.o.c2, .slice aM.o.A3 m.o.mp.length aM.o.c3, .slice aM.At m.t.length aM.ct, .slice A1 es.length c1]) := below_setRow (HB1.out.trans (HS.out.bel.mono HB1.out.size)) HG6.out _
    refine ⟨⟨aM, A1, c1⟩, ⟨p, m, es⟩, rfl, ⟨hp0, HOK.out, by show es.length <= 64; omega, by show p + (es.length : Int) <= 549755813888; omega, fun e he => (HF.out e he).1⟩, by show es.length <= 31; omega, fun e he => (HF.out e he).2, ⟨?_, ?_⟩, hbelE⟩
    · have q := (HRM.out.below HS.out.bel).old (only_row wr g6 #[.int .i64 p, .slice aM.o.A0 m.o.reg.length aM.o.c0, .slice aM.o.A1 m.o.q.length aM.o.c1, .slice aM.o.A2 m.o.lk.length aM.o.c2, .slice aM.o.A3 m.o.mp.length aM.o.c3, .slice aM.At m.t.length aM.ct, .slice A1 es.length c1]) (Old.some HLT6.out)
      exact q.rd
    · obtain ⟨vs, q1, q2⟩ := HS.out.own
      have k1 := own_old q1 (only_row wr g6 #[.int .i64 p, .slice aM.o.A0 m.o.reg.length aM.o.c0, .slice aM.o.A1 m.o.q.length aM.o.c1, .slice aM.o.A2 m.o.lk.length aM.o.c2, .slice aM.o.A3 m.o.mp.length aM.o.c3, .slice aM.At m.t.length aM.ct, .slice A1 es.length c1]) (Old.some HLW.out)
      exact ⟨vs, Rd.ownS k1 (by decide), q2.imp fun _ _ h => h.1.setRowS HS.out.res (noByte_st _ _ _ _ _ _ _ _ _ _ _ _ _ _ _ _ _ _ _)⟩
theorem Mc.dec_is (l : List Nat) : Mc.dec l = if ((Mc.get (some l)).1.wf && (Mc.get (some l)).2.isSome) = true /\ Pk.endOf (Mc.get (some l)).2 = true then some (Mc.get (some l)).1 else none := by
 unfold Mc.dec
 generalize Mc.get (some l) = R
 obtain ⟨m, s⟩ := R
 cases m.wf <;> rcases s with _ | _ | ⟨x, s⟩ <;> simp [Pk.endOf]
set_option maxHeartbeats 4000000 in
set_option maxRecDepth 100000 in
theorem refDecode_any {w : World} {A : Option Addr} {n c B : Nat} {l : List Nat} (hl : l.length <= 100000) (hby : ∀ x ∈ l, x < 256) (hn : n <= c) (hc : c <= maxLen) (h : Rd w B A n (bv l)) :
 Calls Tryz.prog 38 #[.slice A n c] w (GotMB w w (Mc.dec l)) := by
 have hln : l.length = n := by have := h.1; simpa [bv] using this
 have b1 : Below w.heap.size w (w.alloc (.cells #[.slice none 0 0, .slice none 0 0, .slice none 0 0, .slice none 0 0, .slice none 0 0] 31)) := (Below.refl _ _).alloc lR _
 have b2 := b1.alloc b1.size (.cells #[.slice A n c, .bool false] 68)
 have hra : RefAt ((w.alloc (.cells #[.slice none 0 0, .slice none 0 0, .slice none 0 0, .slice none 0 0, .slice none 0 0] 31)).alloc (.cells #[.slice A n c, .bool false] 68)) w.heap.size (w.heap.size + 1) (some l) := by
  refine ⟨A, n, c, ?_, hn, hc, by unfold Lim; omega, by omega, fun l' hl' => ?_⟩
  · have := Blk.new (w.alloc (.cells #[.slice none 0 0, .slice none 0 0, .slice none 0 0, .slice none 0 0, .slice none 0 0] 31)) 68 #[.slice A n c, .bool false]
    rwa [World.size_alloc] at this
  · obtain rfl : l = l' := by injection hl'
    exact ⟨h.fit.below b2, hby⟩
 have HRA := zH hra
 have HZ := zH ((Blk.new w 31 #[.slice none 0 0, .slice none 0 0, .slice none 0 0, .slice none 0 0, .slice none 0 0]).alloc (.cells #[.slice A n c, .bool false] 68))
 have HB2 := zH b2
 have HDEC := zH (Mc.dec_is l)
 have hbs : BytesSt (some l) := (fun l2 h2 => by obtain rfl : l = l2 := (by injection h2); exact hby)
 have C0 := zH (fun w B b h => refMachine_any w B b (some l) h hbs)
 clear h b1 b2 hra
 obtain ⟨⟨m, s2⟩, hR⟩ : ∃ R, Mc.get (some l) = R := ⟨_, rfl⟩
 rw [hR] at C0 HDEC
 simp only at C0 HDEC
 obtain ⟨ok, hok⟩ : ∃ x, (m.wf && s2.isSome) = x := ⟨_, rfl⟩
 rw [hok] at C0 HDEC
 obtain ⟨D, hD⟩ : ∃ D, Mc.dec l = D := ⟨_, rfl⟩
 rw [hD] at HDEC |-
 clear hR hok hD hbs
 go_enter Tryz.func38, Tryz.ntmps38
 go_upto_region 2 with fail
 generalize (w.alloc (.cells #[.slice none 0 0, .slice none 0 0, .slice none 0 0, .slice none 0 0, .slice none 0 0] 31)).alloc (.cells #[.slice A n c, .bool false] 68) = w1 at HRA HZ HB2 |-
 go_upto_region 3 with (first
  | (go_at_call 77; refine (C0.out _ _ _ HRA.out).mono ?_; rintro en w2 ⟨⟨⟨A0, c0, A1, c1, A2, c2, A3, c3⟩, At, ct⟩, rfl, hv, hr, ho⟩
     have hB : Below w.heap.size w1 w2 := (Below.refl _ _).grown ho HB2.out.size (fun k hk => by injection hk with hk; omega)
     have bb : Below w2.heap.size w2 (w2.alloc (.cells #[.slice A0 m.o.reg.length c0, .slice A1 m.o.q.length c1, .slice A2 m.o.lk.length c2, .slice A3 m.o.mp.length c3, .slice At m.t.length ct] 31)) := (Below.refl _ _).alloc lR _
     have hz := HZ.out.grown ho (by intro q; injection q with q; omega)
     have HST : Hid (Blk (w2.alloc (.cells #[.slice A0 m.o.reg.length c0, .slice A1 m.o.q.length c1, .slice A2 m.o.lk.length c2, .slice A3 m.o.mp.length c3, .slice At m.t.length ct] 31)) w.heap.size 31 #[.slice none 0 0, .slice none 0 0, .slice none 0 0, .slice none 0 0, .slice none 0 0] /\ Blk (w2.alloc (.cells #[.slice A0 m.o.reg.length c0, .slice A1 m.o.q.length c1, .slice A2 m.o.lk.length c2, .slice A3 m.o.mp.length c3, .slice At m.t.length ct] 31)) w2.heap.size 31 #[.slice A0 m.o.reg.length c0, .slice A1 m.o.q.length c1, .slice A2 m.o.lk.length c2, .slice A3 m.o.mp.length c3, .slice At m.t.length ct] /\ OwnM w (w2.alloc (.cells #[.slice A0 m.o.reg.length c0, .slice A1 m.o.q.length c1, .slice A2 m.o.lk.length c2, .slice A3 m.o.mp.length c3, .slice At m.t.length ct] 31)) ⟨⟨A0, c0, A1, c1, A2, c2, A3, c3⟩, At, ct⟩ m /\ RefAt (w2.alloc (.cells #[.slice A0 m.o.reg.length c0, .slice A1 m.o.q.length c1, .slice A2 m.o.lk.length c2, .slice A3 m.o.mp.length c3, .slice At m.t.length ct] 31)) w.heap.size (w.heap.size + 1) s2 /\ Below w.heap.size w (w2.alloc (.cells #[.slice A0 m.o.reg.length c0, .slice A1 m.o.q.length c1, .slice A2 m.o.lk.length c2, .slice A3 m.o.mp.length c3, .slice At m.t.length ct] 31))) := zH ⟨hz.below bb, Blk.new _ _ _, (hv.of HB2.out.size).below bb, hr.below bb, (HB2.out.trans hB).trans (bb.mono (HB2.out.trans hB).size)⟩
     have hgw : w.heap.size < w2.heap.size := hz.lt
     unfold machV machC
     simp only
     clear hv hr ho hB bb hz C0)
  | fail)
 generalize w2.alloc (.cells #[.slice A0 m.o.reg.length c0, .slice A1 m.o.q.length c1, .slice A2 m.o.lk.length c2, .slice A3 m.o.mp.length c3, .slice At m.t.length ct] 31) = w3 at HST |-
 obtain ⟨g, hg⟩ : ∃ g, w2.heap.size = g := ⟨_, rfl⟩
 rw [hg] at HST hgw |-
 have HS3 := HST
 clear HST
 cases ok with
 | false =>
   have r0 := HS3.out.1
   obtain ⟨k1, k2, k3, k4, k5⟩ := put5 r0 (.slice none 0 0) (.slice none 0 0) (.slice none 0 0) (.slice none 0 0) (.slice none 0 0)
   have hown := k3 w _ _ (OwnM.zero w w3) (by decide) (by decide) (by decide) (by decide) (by decide)
   have hbel := k2 w lR HS3.out.2.2.2.2
   have HEND := zH (And.intro k1 (And.intro hown hbel))
   obtain ⟨x0, x1, x2, x3, x4⟩ := five (t := 31) HS3.out.2.1
   obtain ⟨f0, f1, f2, f3, f4⟩ := five_frozen r0
   obtain ⟨z0, z1, z2, z3, z4⟩ := five (t := 31) r0
   clear r0 k1 k2 k3 k4 k5 hown hbel
   go_wp2_with fail
   refine bodyPost_ret (results_cell_tmp rfl _ _ _ _ _ _ rfl HEND.out.1 Tryz.underlying31 rfl (by kernel_rfl)) rfl ?_
   have hD := HDEC.out
   simp at hD
   subst hD
   exact ⟨⟨⟨none, 0, none, 0, none, 0, none, 0⟩, none, 0⟩, rfl, HEND.out.2.1, HEND.out.2.2, HEND.out.2.2⟩
 | true =>
   obtain ⟨en, hen⟩ : ∃ x, Pk.endOf s2 = x := ⟨_, rfl⟩
   have CE := zH (refend_any w3 w.heap.size (w.heap.size + 1) s2 HS3.out.2.2.2.1)
   rw [hen] at CE HDEC
   clear hen
   cases en with
   | false =>
     have r0 := HS3.out.1
     obtain ⟨k1, k2, k3, k4, k5⟩ := put5 r0 (.slice none 0 0) (.slice none 0 0) (.slice none 0 0) (.slice none 0 0) (.slice none 0 0)
     have hown := k3 w _ _ (OwnM.zero w w3) (by decide) (by decide) (by decide) (by decide) (by decide)
     have hbel := k2 w lR HS3.out.2.2.2.2
     have HEND := zH (And.intro k1 (And.intro hown hbel))
     obtain ⟨x0, x1, x2, x3, x4⟩ := five (t := 31) HS3.out.2.1
     obtain ⟨f0, f1, f2, f3, f4⟩ := five_frozen r0
     obtain ⟨z0, z1, z2, z3, z4⟩ := five (t := 31) r0
     clear r0 k1 k2 k3 k4 k5 hown hbel
     go_wp2_with (first | (go_at_call 41; refine CE.out.mono ?_; rintro en w5 ⟨rfl, rfl⟩) | fail)
     refine bodyPost_ret (results_cell_tmp rfl _ _ _ _ _ _ rfl HEND.out.1 Tryz.underlying31 rfl (by kernel_rfl)) rfl ?_
     have hD := HDEC.out
     simp at hD
     subst hD
     exact ⟨⟨⟨none, 0, none, 0, none, 0, none, 0⟩, none, 0⟩, rfl, HEND.out.2.1, HEND.out.2.2, HEND.out.2.2⟩
   | true =>
     have r0 := HS3.out.1
     obtain ⟨k1, k2, k3, k4, k5⟩ := put5 r0 (.slice A0 m.o.reg.length c0) (.slice A1 m.o.q.length c1) (.slice A2 m.o.lk.length c2) (.slice A3 m.o.mp.length c3) (.slice At m.t.length ct)
     have hown := k3 w _ _ HS3.out.2.2.1 (by decide) (by decide) (by decide) (by decide) (by decide)
     have hbel := k2 w lR HS3.out.2.2.2.2
     have HEND := zH (And.intro k1 (And.intro hown hbel))
     obtain ⟨x0, x1, x2, x3, x4⟩ := five (t := 31) HS3.out.2.1
     obtain ⟨f0, f1, f2, f3, f4⟩ := five_frozen r0
     obtain ⟨z0, z1, z2, z3, z4⟩ := five (t := 31) r0
     clear r0 k1 k2 k3 k4 k5 hown hbel
     go_wp2_with (first | (go_at_call 41; refine CE.out.mono ?_; rintro en w5 ⟨rfl, rfl⟩) | fail)
     refine bodyPost_ret (results_cell_tmp rfl _ _ _ _ _ _ rfl HEND.out.1 Tryz.underlying31 rfl (by kernel_rfl)) rfl ?_
     have hD := HDEC.out
     simp at hD
     subst hD
     exact ⟨⟨⟨A0, c0, A1, c1, A2, c2, A3, c3⟩, At, ct⟩, rfl, HEND.out.2.1, HEND.out.2.2, HEND.out.2.2⟩
end Go.Proofs.YtmekamgohonffaaGreat
