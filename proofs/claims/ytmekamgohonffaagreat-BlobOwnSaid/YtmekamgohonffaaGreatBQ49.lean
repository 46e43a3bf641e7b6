/- BlobState BlobOwnKit -/
import Derived.Test.YtmekamgohonffaaGreatBQ27
import Derived.Test.YtmekamgohonffaaGreatBQ30
import Derived.Test.YtmekamgohonffaaGreatBQ37
import Derived.Test.YtmekamgohonffaaGreatBQ38
import Derived.Test.YtmekamgohonffaaGreatBQ39
import Derived.Test.YtmekamgohonffaaGreatBQ42
import Derived.Test.YtmekamgohonffaaGreatBQ47
import Derived.Deep.MidRow
import Derived.Laws.CopyOwn
namespace Go.Proofs.YtmekamgohonffaaGreat
open Go.RowKit
set_option linter.unusedVariables false
theorem Blk.putS {w : World} {g : Nat} {t : TypeId} {old : Array Value} (h : Blk w g t old) (cs : Array Value) : Blk (w.setRow g cs) g t cs := setRow_heap w g old cs t (0, 0) h
theorem noByte_st (p : Int) (A1 A2 A3 A4 A5 A6 : Option Addr) (n1 c1 n2 c2 n3 c3 n4 c4 n5 c5 n6 c6 : Nat) : NoByte #[.int .i64 p, .slice A1 n1 c1, .slice A2 n2 c2, .slice A3 n3 c3, .slice A4 n4 c4, .slice A5 n5 c5, .slice A6 n6 c6] := by
  intro j x h
  match j with
  | 0 => simp at h
  | 1 => simp at h
  | 2 => simp at h
  | 3 => simp at h
  | 4 => simp at h
  | 5 => simp at h
  | 6 => simp at h
  | (n + 7) => simp at h
theorem RdC.setRowS {w : World} {B b : Nat} {t : TypeId} {cs c : Array Value} {a : CA} {k : Cm} (h : RdC w B a k) (hb : Blk w b t cs) (hk : NoByte cs) : RdC (w.setRow b c) (w.setRow b c).heap.size a k := by
  have hr : ∀ {A : Option Addr} {n : Nat} {l : List Nat}, Rd w B A n (bv l) → Rd (w.setRow b c) (w.setRow b c).heap.size A n (bv l) := by
    intro A n l h
    have h := h.fit
    refine ⟨h.1, fun hn => ?_⟩
    obtain ⟨g, o, e1, hlt, e3⟩ := h.2 hn
    refine ⟨g, o, e1, by simpa using hlt, fun i hi => ?_⟩
    have hne : g ≠ b := by
      rintro rfl
      have h3 := e3 i hi
      have hlen := h.1
      rw [bv_length] at hlen
      have hv : (bv l)[i]? = some (.int .u8 ((l[i]'(by omega) : Nat) : Int)) := bv_get (by omega)
      rw [hv, hb.cell] at h3
      exact hk _ _ h3
    rw [cell_setRow_other w b c ⟨g, o + i, none⟩ hne]
    exact e3 i hi
  exact ⟨hr h.rk, hr h.rv, hr h.ro⟩
/-- the loop's state: what lies in the state's variable g, k entries so far -/
structure StS (w1 wx : World) (g g6 : Nat) (p : Int) (aM : MA) (m : Mc) (A : Option Addr) (k c : Nat) (es : List En) : Prop where
  blk : Blk wx g 34 #[.int .i64 p, .slice aM.o.A0 m.o.reg.length aM.o.c0, .slice aM.o.A1 m.o.q.length aM.o.c1, .slice aM.o.A2 m.o.lk.length aM.o.c2, .slice aM.o.A3 m.o.mp.length aM.o.c3, .slice aM.At m.t.length aM.ct, .slice A k c]
  res : Blk wx g6 34 #[.int .i64 0, .slice none 0 0, .slice none 0 0, .slice none 0 0, .slice none 0 0, .slice none 0 0, .slice none 0 0]
  own : OwnE w1 wx A k c es
  bel : Below w1.heap.size w1 wx
  hg : w1.heap.size ≤ g
  h6 : g6 ≠ g
section
variable {w1 wx wy : World} {g g6 : Nat} {p : Int} {aM : MA} {m : Mc} {A : Option Addr} {k c : Nat} {es : List En}
theorem StS.below (h : StS w1 wx g g6 p aM m A k c es) (hb : Below wx.heap.size wx wy) : StS w1 wy g g6 p aM m A k c es := ⟨h.blk.below hb, h.res.below hb, h.own.below hb, h.bel.trans (hb.mono h.bel.size), h.hg, h.h6⟩
theorem StS.apart (h : StS w1 wx g g6 p aM m A k c es) (hs : wx.heap.size ≤ wy.heap.size) : ∀ q, (Value.slice A k c).ownBlock = some q → q ≠ wy.heap.size := fun q hq => by
  obtain ⟨vs, q1, _⟩ := h.own
  have := (q1.lt q hq).2
  omega
/-- a store into an entry's own block -/
theorem StS.ent (h : StS w1 wx g g6 p aM m A k c es) {b i : Nat} {u : Value} {cs : Array Value} (hb : Blk wx b 43 cs) (hk : NoByte cs) (hne : ∀ q, (Value.slice A k c).ownBlock = some q → q ≠ b) (hw : w1.heap.size ≤ b) : StS w1 (wx.setCell ⟨b, i, none⟩ u) g g6 p aM m A k c es := by
  refine ⟨h.blk.set_other (h.blk.apart hb (by decide)), h.res.set_other (h.res.apart hb (by decide)), ?_, h.bel.setCell hw _, h.hg, h.h6⟩
  obtain ⟨vs, q1, q2⟩ := h.own
  exact ⟨vs, q1.kept (grown_set wx b i u) (Or.inr (fun h => hne _ h rfl)), q2.imp fun _ _ h => ⟨h.1.setK hb hk, h.2⟩⟩
/-- the row with an entry more goes into the variable -/
theorem StS.more (h : StS w1 wx g g6 p aM m A k c es) {A3 : Option Addr} {c3 : Nat} {es3 : List En} (hg : wx.grownBy wy (Value.slice A k c).ownBlock) (hb : Below w1.heap.size w1 wy) (ho : OwnE w1 wy A3 (k + 1) c3 es3) : StS w1 (wy.setCell ⟨g, 6, none⟩ (.slice A3 (k + 1) c3)) g g6 p aM m A3 (k + 1) c3 es3 := by
  obtain ⟨vs, q1, _⟩ := h.own
  have k1 := h.blk.apart_own q1 (by decide) hg
  have k2 := h.res.apart_own q1 (by decide) hg
  refine ⟨k1.set_ 6 _, k2.set_other h.h6, ?_, hb.setCell h.hg _, h.hg, h.h6⟩
  obtain ⟨us, r1, r2⟩ := ho
  exact ⟨us, own_set_t r1 k1 (by decide), r2.imp fun _ _ h => ⟨h.1.setK k1 (noByte_st _ _ _ _ _ _ _ _ _ _ _ _ _ _ _ _ _ _ _), h.2⟩⟩
end
/-- the entry of a state: as the code puts it -/
theorem entState (z : Int) (k : Nat) (hk : k ≤ 31) (w : World) : Calls Tryz.prog 22 #[.int .i64 z, .int .i64 ((k : Int) + 20)] w fun en w' => ∃ ca e, en = .returned (.agg #[.int .i64 e.s, .int .i64 e.q, .int .i64 e.c.kind, .int .i64 e.c.who, .slice ca.Ak e.c.key.length ca.ck, .slice ca.Av e.c.val.length ca.cv, .slice ca.Ao e.c.old.length ca.co]) ∧ (entMax e).ok = true ∧ e.c.Fits ∧ RdC w' w'.heap.size ca e.c ∧ ca.Z ∧ Below w.heap.size w w' := by
  have q := entDZ_any z (k + 20) (by omega) w
  rw [show (((k + 20 : Nat)) : Int) = (k : Int) + 20 by omega] at q
  exact q.mono fun en w' ⟨ca, h1, h2, h3, h4, h5⟩ => ⟨ca, entOf z (k + 20), h1, entMax_ok z (k + 20) (by omega), h2, h3, h4, h5⟩
set_option maxHeartbeats 2000000 in
set_option maxRecDepth 100000 in
theorem state15 (w : World) {A : Option Addr} {n c B : Nat} {zs : List Int} (pos rest : Int) (hn : n ≤ maxLen) (h : Rd w B A n (iv zs)) :
    Calls Tryz.prog 7 #[.slice A n c, .int .i64 pos, .int .i64 rest] w fun en w' => ∃ a s, en = .returned (stateV a s) ∧ s.Ok ∧ s.rest.length ≤ 31 ∧ (∀ e ∈ s.rest, e.c.Fits) ∧ RdS w' w'.heap.size a s ∧ Below w.heap.size w w' := by
  have a31 := and_31 rest
  have aff := and_ffff pos
  have a7 := fun k : Int => and_7 k
  have H := Lib.hid h.fit
  clear h
  obtain ⟨R, hR, hR31⟩ : ∃ R : Nat, rest % 32 = (R : Int) ∧ R ≤ 31 := ⟨(rest % 32).toNat, by omega, by omega⟩
  rw [hR] at a31
  obtain ⟨p, hp, hp0, hp1⟩ : ∃ p, pos % 65536 = p ∧ 0 ≤ p ∧ p < 65536 := ⟨_, rfl, by omega, by omega⟩
  rw [hp] at aff
  clear hR hp
  go_enter Tryz.func7, Tryz.ntmps7
  go_upto_region 1 with fail
  obtain ⟨g6, wa, hg6, hwa, hk6, hba⟩ : ∃ g6 wa, w.heap.size = g6 ∧ w.alloc (.cells #[.int .i64 0, .slice none 0 0, .slice none 0 0, .slice none 0 0, .slice none 0 0, .slice none 0 0, .slice none 0 0] 34) = wa ∧ Blk wa g6 34 #[.int .i64 0, .slice none 0 0, .slice none 0 0, .slice none 0 0, .slice none 0 0, .slice none 0 0, .slice none 0 0] ∧ Below w.heap.size w wa := ⟨_, _, rfl, rfl, Blk.new _ _ _, (Below.refl _ _).alloc (Nat.le_refl _) _⟩
  rw [hg6, hwa]
  have HK6 := Lib.hid hk6
  have HBa := Lib.hid hba
  have HG6 := Lib.hid (Nat.le_of_eq hg6)
  clear hg6 hwa hk6 hba
  go_upto_region 2 with (first
    | (go_at_call 21; refine (machine_any hn _ (H.out.below HBa.out)).mono ?_; rintro e w1 ⟨aM, m, rfl, hok, hown, hb⟩; unfold machV machC
       have HOK := Lib.hid hok
       have HRM := Lib.hid hown
       have HB1 := Lib.hid (HBa.out.trans (hb.mono HBa.out.size))
       have HK61 := Lib.hid (HK6.out.below hb)
       clear hok hown hb)
    | (refine wpList_store_row rfl 34 (.tmp 7) (.tmp 14) rfl w1.heap.size #[.int .i64 p, .slice aM.o.A0 m.o.reg.length aM.o.c0, .slice aM.o.A1 m.o.q.length aM.o.c1, .slice aM.o.A2 m.o.lk.length aM.o.c2, .slice aM.o.A3 m.o.mp.length aM.o.c3, .slice aM.At m.t.length aM.ct, .slice none 0 0] rfl rfl 34 #[.int .i64 0, .slice none 0 0, .slice none 0 0, .slice none 0 0, .slice none 0 0, .slice none 0 0, .slice none 0 0] (Blk.new w1 34 #[.int .i64 0, .slice none 0 0, .slice none 0 0, .slice none 0 0, .slice none 0 0, .slice none 0 0, .slice none 0 0]) (by kernel_rfl) rfl (by kernel_rfl) ?_)
    | fail)
  obtain ⟨g, hg⟩ : ∃ g, w1.heap.size = g := ⟨_, rfl⟩
  have hs0 : StS w1 ((w1.alloc (.cells #[.int .i64 0, .slice none 0 0, .slice none 0 0, .slice none 0 0, .slice none 0 0, .slice none 0 0, .slice none 0 0] 34)).setRow w1.heap.size #[.int .i64 p, .slice aM.o.A0 m.o.reg.length aM.o.c0, .slice aM.o.A1 m.o.q.length aM.o.c1, .slice aM.o.A2 m.o.lk.length aM.o.c2, .slice aM.o.A3 m.o.mp.length aM.o.c3, .slice aM.At m.t.length aM.ct, .slice none 0 0]) g g6 p aM m none 0 0 [] := by
    subst hg
    have k6 := HK61.out.lt
    exact ⟨Blk.putS (Blk.new w1 34 #[.int .i64 0, .slice none 0 0, .slice none 0 0, .slice none 0 0, .slice none 0 0, .slice none 0 0, .slice none 0 0]) _, (HK61.out.alloc _).row_other (by omega) _, OwnE.nil _ _, below_setRow ((Below.refl _ _).alloc (Nat.le_refl _) _) (Nat.le_refl _) _, Nat.le_refl _, by omega⟩
  generalize ((w1.alloc (.cells #[.int .i64 0, .slice none 0 0, .slice none 0 0, .slice none 0 0, .slice none 0 0, .slice none 0 0, .slice none 0 0] 34)).setRow w1.heap.size #[.int .i64 p, .slice aM.o.A0 m.o.reg.length aM.o.c0, .slice aM.o.A1 m.o.q.length aM.o.c1, .slice aM.o.A2 m.o.lk.length aM.o.c2, .slice aM.o.A3 m.o.mp.length aM.o.c3, .slice aM.At m.t.length aM.ct, .slice none 0 0]) = wb at hs0 ⊢
  rw [hg]
  have HS := Lib.hid hs0
  clear hs0 hg
  go_upto_region 3 with fail
  go_loopw [8] (fun s8 wr => ∃ (k : Nat) (A : Option Addr) (c : Nat) (es : List En), k ≤ R ∧ es.length = k ∧ s8 = .int .i64 (k : Int) ∧ Hid (0 < k ∨ A = none) ∧ Hid (∀ e ∈ es, e.ok = true ∧ e.c.Fits) ∧ Hid (StS w1 wr g g6 p aM m A k c es)) (fun s _ => R - (intOf s).toNat)
  case atStart => exact ⟨0, none, 0, [], by omega, rfl, rfl, Lib.hid (Or.inr rfl), Lib.hid (by simp), HS⟩
  case round =>
    have HLW := Lib.hid HK61.out.lt
    have HLT6 := Lib.hid HK6.out.lt
    clear HS HK61 HK6 HBa H
    obtain ⟨k, A1, c1, es, hkR, hes, rfl, HN0, HF, HS⟩ := hrel
    by_cases hlt : k < R
    · have hk31 : k ≤ 31 := by omega
      have HCE : Hid (∀ z wx, Calls Tryz.prog 22 #[.int .i64 z, .int .i64 ((k : Int) + 20)] wx fun en w' => ∃ ca e, en = .returned (.agg #[.int .i64 e.s, .int .i64 e.q, .int .i64 e.c.kind, .int .i64 e.c.who, .slice ca.Ak e.c.key.length ca.ck, .slice ca.Av e.c.val.length ca.cv, .slice ca.Ao e.c.old.length ca.co]) ∧ (entMax e).ok = true ∧ e.c.Fits ∧ RdC w' w'.heap.size ca e.c ∧ ca.Z ∧ Below wx.heap.size wx w') := Lib.hid (fun z wx => entState z k hk31 wx)
      have hw1 : IntKind.i64.wrap ((k : Int) + 20) = (k : Int) + 20 := IntWalk.i64_in _ (by omega)
      have hw2 : IntKind.i64.wrap ((k : Int) + 1) = (k : Int) + 1 := IntWalk.i64_in _ (by omega)
      have hkRi : (k : Int) < (R : Int) := by omega
      have hk8 : (0 : Int) ≤ (k : Int) % 8 ∧ (k : Int) % 8 < 8 := by omega
      obtain ⟨k7, hk7, hk78⟩ : ∃ j : Nat, bits .and .i64 (k : Int) 7 = (j : Int) ∧ j < 8 := ⟨((k : Int) % 8).toNat, by rw [and_7]; omega, by omega⟩
      have hw3 : IntKind.u64.wrap (k7 : Int) = (k7 : Int) := IntWalk.u64_in _ (by omega)
      clear hk8 a7
      go_upto_region 6 with (first
        | (go_at_call 22; refine (HCE.out _ _).mono ?_; rintro en w2 ⟨ca, e, rfl, hok, hf, hr, hzz, hb⟩)
        | fail)
      have bb : Below w2.heap.size w2 (w2.alloc (.cells #[.int .i64 e.s, .int .i64 e.q, .int .i64 e.c.kind, .int .i64 e.c.who, .slice ca.Ak e.c.key.length ca.ck, .slice ca.Av e.c.val.length ca.cv, .slice ca.Ao e.c.old.length ca.co] 43)) := (Below.refl _ _).alloc (Nat.le_refl _) _
      have HK := Lib.hid (Blk.new w2 43 #[.int .i64 e.s, .int .i64 e.q, .int .i64 e.c.kind, .int .i64 e.c.who, .slice ca.Ak e.c.key.length ca.ck, .slice ca.Av e.c.val.length ca.cv, .slice ca.Ao e.c.old.length ca.co])
      have HRC := Lib.hid (hr.below' bb)
      have HS2 := Lib.hid ((HS.out.below hb).below bb)
      have HZ := Lib.hid hzz
      have HFE := Lib.hid hf
      have HOK2 := Lib.hid hok
      have HGE : Hid (w1.heap.size ≤ w2.heap.size) := Lib.hid (Nat.le_trans HS.out.bel.size hb.size)
      have HNE := Lib.hid (HS.out.apart hb.size)
      clear hr hzz hf hok hb bb
      obtain ⟨ge, hge⟩ : ∃ ge, w2.heap.size = ge := ⟨_, rfl⟩
      rw [hge] at HK HGE HNE ⊢
      generalize w2.alloc (.cells #[.int .i64 e.s, .int .i64 e.q, .int .i64 e.c.kind, .int .i64 e.c.who, .slice ca.Ak e.c.key.length ca.ck, .slice ca.Av e.c.val.length ca.cv, .slice ca.Ao e.c.old.length ca.co] 43) = wa at HK HRC HS2 ⊢
      have x3 : wa.cell? ⟨ge, 3, none⟩ = some (.int .i64 e.c.who) := HK.out.cell 3
      have f3 := HK.out.frozen 3
      go_upto_region 7 with fail
      have k0 := noByte_ent e.s e.q e.c.kind e.c.who ca.Ak ca.Av ca.Ao e.c.key.length ca.ck e.c.val.length ca.cv e.c.old.length ca.co
      obtain ⟨e2, he2⟩ : ∃ e2, entMax e = e2 := ⟨_, rfl⟩
      have HKE : Hid (Blk (wa.setCell ⟨ge, 3, none⟩ (.int .i64 (if e.c.who < 0 then 0 else e.c.who))) ge 43 #[.int .i64 e2.s, .int .i64 e2.q, .int .i64 e2.c.kind, .int .i64 e2.c.who, .slice ca.Ak e2.c.key.length ca.ck, .slice ca.Av e2.c.val.length ca.cv, .slice ca.Ao e2.c.old.length ca.co]) := Lib.hid (by rw [← he2]; exact HK.out.set_ 3 _)
      have HRC2 : Hid (RdC (wa.setCell ⟨ge, 3, none⟩ (.int .i64 (if e.c.who < 0 then 0 else e.c.who))) (wa.setCell ⟨ge, 3, none⟩ (.int .i64 (if e.c.who < 0 then 0 else e.c.who))).heap.size ca e2.c) := Lib.hid (by
        rw [← he2]
        have q := HRC.out.setK (i := 3) (u := .int .i64 (if e.c.who < 0 then 0 else e.c.who)) HK.out k0
        exact ⟨q.rk, q.rv, q.ro⟩)
      have HS3 := Lib.hid (HS2.out.ent (i := 3) (u := .int .i64 (if e.c.who < 0 then 0 else e.c.who)) HK.out k0 HNE.out HGE.out)
      have HF2 : Hid (e2.ok = true ∧ e2.c.Fits) := Lib.hid (by
        rw [← he2]
        have q := HFE.out
        exact ⟨HOK2.out, ⟨q.key, q.val, q.old⟩⟩)
      clear x3 f3 k0 HK HRC HS2 he2
      generalize wa.setCell ⟨ge, 3, none⟩ (.int .i64 (if e.c.who < 0 then 0 else e.c.who)) = wf at HKE HRC2 HS3 ⊢
      obtain ⟨x0, x1, x2, x3, x4, x5, x6⟩ := seven HKE.out
      have y6 : wf.cell? ⟨g, 6, none⟩ = some (.slice A1 k c1) := HS3.out.blk.cell 6
      obtain ⟨vs, q1, q2⟩ := HS3.out.own
      have b1 : Below wf.heap.size wf (wf.alloc (.cells #[.int .i64 e2.s, .int .i64 e2.q, .int .i64 e2.c.kind, .int .i64 e2.c.who, .slice ca.Ak e2.c.key.length ca.ck, .slice ca.Av e2.c.val.length ca.cv, .slice ca.Ao e2.c.old.length ca.co] 43)) := (Below.refl _ _).alloc (Nat.le_refl _) _
      have hq1 := ownsRow_below q1 b1
      have HS4 := Lib.hid (HS3.out.below b1)
      have HQ2 := Lib.hid q2
      have HB1 := Lib.hid b1
      clear q1 q2 b1
      go_wp2_with (first
        | (at_builtin
           refine wpList_append_E (W := w1) cellE (.tmp 39) (.tmp 41) rfl (by rfl) rfl hq1 rfl (Rd.entAt _ ca e2 _ rfl) (entL_one _ _) (by omega) (by omega) (HS3.out.bel.alloc HS3.out.bel.size _) ?_
           intro A3 c3 w3 hown3 hB3 hg3
           have hoe : OwnE w1 w3 A3 (k + 1) c3 (es ++ [e2]) := OwnE.snoc hq1 (HQ2.out.imp fun _ _ h => ⟨h.1.below' HB1.out, h.2⟩) (HRC2.out.below' HB1.out) HZ.out HN0.out hg3 hown3
           have HS5 := Lib.hid (HS4.out.more hg3 hB3 hoe)
           obtain ⟨vs4, r4, _⟩ := HS4.out.own
           have bk4 := HS4.out.blk.apart_own r4 (by decide) hg3
           have y6' : w3.cell? ⟨g, 6, none⟩ = some (.slice A1 k c1) := bk4.cell 6
           have f6' := bk4.frozen 6
           clear r4 bk4 hoe hown3 hB3 hg3)
        | fail)
      go_roundw
      case rel =>
        refine ⟨k + 1, A3, c3, es ++ [e2], by omega, by simp [hes], by go_num, Lib.hid (Or.inl (by omega)), Lib.hid ?_, HS5⟩
        intro e' he'
        rcases List.mem_append.1 he' with h1 | h1
        · exact HF.out e' h1
        · simp only [List.mem_cons, List.not_mem_nil, or_false] at h1
          subst h1
          exact HF2.out
      case measure => simp only [intOf]; omega
    · have hkn : ¬ (k : Int) < (R : Int) := by omega
      go_wp2_with (first
        | (refine wpList_load_row rfl 34 (.tmp 7) rfl g rfl 34 #[.int .i64 p, .slice aM.o.A0 m.o.reg.length aM.o.c0, .slice aM.o.A1 m.o.q.length aM.o.c1, .slice aM.o.A2 m.o.lk.length aM.o.c2, .slice aM.o.A3 m.o.mp.length aM.o.c3, .slice aM.At m.t.length aM.ct, .slice A1 k c1] (0, 0) _ HS.out.blk Tryz.underlying34 rfl (by kernel_rfl) ?_)
        | (refine wpList_store_row rfl 34 (.tmp 6) (.tmp 44) rfl g6 #[.int .i64 p, .slice aM.o.A0 m.o.reg.length aM.o.c0, .slice aM.o.A1 m.o.q.length aM.o.c1, .slice aM.o.A2 m.o.lk.length aM.o.c2, .slice aM.o.A3 m.o.mp.length aM.o.c3, .slice aM.At m.t.length aM.ct, .slice A1 k c1] rfl rfl 34 #[.int .i64 0, .slice none 0 0, .slice none 0 0, .slice none 0 0, .slice none 0 0, .slice none 0 0, .slice none 0 0] HS.out.res (by kernel_rfl) rfl (by kernel_rfl) ?_)
        | fail)
      refine bodyPost_ret (results_cell_row rfl _ _ _ _ _ _ _ rfl (Blk.putS HS.out.res #[.int .i64 p, .slice aM.o.A0 m.o.reg.length aM.o.c0, .slice aM.o.A1 m.o.q.length aM.o.c1, .slice aM.o.A2 m.o.lk.length aM.o.c2, .slice aM.o.A3 m.o.mp.length aM.o.c3, .slice aM.At m.t.length aM.ct, .slice A1 k c1]) Tryz.underlying34 rfl (by kernel_rfl)) rfl ?_
      subst hes
      have hbelE : Below w.heap.size w (wr.setRow g6 #[.int .i64 p, .slice aM.o.A0 m.o.reg.length aM.o.c0, .slice aM.o.A1 m.o.q.length aM.o.c1, .slice aM.o.A2 m.o.lk.length aM.o.c2, .slice aM.o.A3 m.o.mp.length aM.o.c3, .slice aM.At m.t.length aM.ct, .slice A1 es.length c1]) := below_setRow (HB1.out.trans (HS.out.bel.mono HB1.out.size)) HG6.out _
      refine ⟨⟨aM, A1, c1⟩, ⟨p, m, es⟩, rfl, ⟨hp0, HOK.out, by show es.length ≤ 64; omega, by show p + (es.length : Int) ≤ 549755813888; omega, fun e he => (HF.out e he).1⟩, by show es.length ≤ 31; omega, fun e he => (HF.out e he).2, ⟨?_, ?_⟩, hbelE⟩
      · have q := (HRM.out.below HS.out.bel).old (only_row wr g6 #[.int .i64 p, .slice aM.o.A0 m.o.reg.length aM.o.c0, .slice aM.o.A1 m.o.q.length aM.o.c1, .slice aM.o.A2 m.o.lk.length aM.o.c2, .slice aM.o.A3 m.o.mp.length aM.o.c3, .slice aM.At m.t.length aM.ct, .slice A1 es.length c1]) (Old.some HLT6.out)
        exact q.rd
      · obtain ⟨vs, q1, q2⟩ := HS.out.own
        have k1 := own_old q1 (only_row wr g6 #[.int .i64 p, .slice aM.o.A0 m.o.reg.length aM.o.c0, .slice aM.o.A1 m.o.q.length aM.o.c1, .slice aM.o.A2 m.o.lk.length aM.o.c2, .slice aM.o.A3 m.o.mp.length aM.o.c3, .slice aM.At m.t.length aM.ct, .slice A1 es.length c1]) (Old.some HLW.out)
        exact ⟨vs, Rd.ownS k1 (by decide), q2.imp fun _ _ h => h.1.setRowS HS.out.res (noByte_st _ _ _ _ _ _ _ _ _ _ _ _ _ _ _ _ _ _ _)⟩
end Go.Proofs.YtmekamgohonffaaGreat

namespace Go.Proofs.YtmekamgohonffaaGreat
open Go.RowKit
set_option linter.unusedVariables false
/-- a state's variable and the bytes of a part, behind wc -/
structure Ts (wc wr : World) (g9 : Nat) (p : Int) (A0 Ar Ap : Option Addr) (c0 cr n0 nr np : Nat) (v2 v3 v4 v5 : Value) (us : List Value) : Prop where
  bel : Below wc.heap.size wc wr
  blk : Blk wr g9 34 #[.int .i64 p, .slice A0 n0 c0, v2, v3, v4, v5, .slice Ar nr cr]
  row : wr.ownsRow wc.heap.size 43 7 (.slice Ar nr cr) nr us
  es : ∀ j, j < nr → ∃ A m c, us[j * 7 + 5]? = some (.slice A m c) ∧ m ≤ 1000 ∧ (0 < m → ∃ g, A = some ⟨g, 0, none⟩ ∧ Bytes8 wr wc.heap.size g m)
  reg : 0 < n0 → ∃ g, A0 = some ⟨g, 0, none⟩ ∧ Bytes8 wr wc.heap.size g n0
  part : 0 < np → ∃ g, Ap = some ⟨g, 0, none⟩ ∧ Bytes8 wr wc.heap.size g np
  len : n0 ≤ 1000 ∧ nr ≤ 1000 ∧ np ≤ 1000
section
variable {wc wr : World} {g9 : Nat} {p : Int} {A0 Ar Ap : Option Addr} {c0 cr n0 nr np : Nat} {v2 v3 v4 v5 : Value} {us : List Value}
/-- a byte is turned -/
theorem Ts.setb {g mm i : Nat} {x : Int} (H : Ts wc wr g9 p A0 Ar Ap c0 cr n0 nr np v2 v3 v4 v5 us) (hb : Bytes8 wr wc.heap.size g mm) (h0 : 0 ≤ x) (h1 : x < 256) : Ts wc (wr.setCell ⟨g, i, none⟩ (.int .u8 x)) g9 p A0 Ar Ap c0 cr n0 nr np v2 v3 v4 v5 us :=
  ⟨H.bel.setCell hb.1 _, H.blk.set_other (fun e => hb.apart H.blk (by decide) e.symm), own_set_b H.row hb (by decide),
    fun j hj => (by obtain ⟨A', m', c', q1, q2, q3⟩ := H.es j hj; exact ⟨A', m', c', q1, q2, fun hp => by obtain ⟨g', e', hg⟩ := q3 hp; exact ⟨g', e', hg.set_ h0 h1⟩⟩),
    fun hp => (by obtain ⟨g', e', hg⟩ := H.reg hp; exact ⟨g', e', hg.set_ h0 h1⟩), fun hp => (by obtain ⟨g', e', hg⟩ := H.part hp; exact ⟨g', e', hg.set_ h0 h1⟩), H.len⟩
theorem Ts.ent {j : Nat} (H : Ts wc wr g9 p A0 Ar Ap c0 cr n0 nr np v2 v3 v4 v5 us) (hj : j < nr) : ∃ g A9 m9 c9, Ar = some ⟨g, 0, none⟩ ∧ us[j * 7 + 5]? = some (.slice A9 m9 c9) ∧ m9 ≤ 1000 := by
  obtain ⟨g, e, _, _⟩ := own_addrS H.row (by omega)
  obtain ⟨A9, m9, c9, q1, q2, _⟩ := H.es j hj
  exact ⟨g, A9, m9, c9, e, q1, q2⟩
theorem Ts.cell5 {j g m9 c9' : Nat} {A9 : Option Addr} (H : Ts wc wr g9 p A0 (some ⟨g, 0, none⟩) Ap c0 cr n0 nr np v2 v3 v4 v5 us) (hj : j < nr) (hu : us[j * 7 + 5]? = some (.slice A9 m9 c9')) : wr.cell? ⟨g, j * 7 + 5, none⟩ = some (.slice A9 m9 c9') :=
  (H.row.cellAt (j * 7 + 5) (by omega)).trans hu
theorem Ts.cell0 {j g : Nat} (H : Ts wc wr g9 p A0 (some ⟨g, 0, none⟩) Ap c0 cr n0 nr np v2 v3 v4 v5 us) (hj : j < nr) : (∃ v, wr.cell? ⟨g, j * 7, none⟩ = some v) ∧ wr.frozen? ⟨g, j * 7, none⟩ = false := by
  have hl := H.row.1
  exact ⟨⟨_, (H.row.cellAt (j * 7) (by omega)).trans (List.getElem?_eq_getElem (by omega))⟩, own_frozenS H.row _⟩
/-- its session is turned -/
theorem Ts.sess {j g : Nat} {v : Value} (H : Ts wc wr g9 p A0 (some ⟨g, 0, none⟩) Ap c0 cr n0 nr np v2 v3 v4 v5 us) (hj : j < nr) : Ts wc (wr.setCell ⟨g, j * 7, none⟩ v) g9 p A0 (some ⟨g, 0, none⟩) Ap c0 cr n0 nr np v2 v3 v4 v5 (us.set (j * 7) v) := by
  have hrow := H.row
  rcases own_blk hrow with ⟨q1, _⟩ | ⟨g', cur, q1, hg, hk⟩
  · cases q1
  · injection q1 with q1
    injection q1 with q1
    subst q1
    refine ⟨H.bel.setCell hg _, H.blk.set_other (fun e => hk.apart H.blk (by decide) e.symm), (hrow.stored (j * 7) v).1, fun i hi => ?_,
      fun hp => (by obtain ⟨g', e', hg'⟩ := H.reg hp; exact ⟨g', e', hg'.set_t hk (by decide)⟩), fun hp => (by obtain ⟨g', e', hg'⟩ := H.part hp; exact ⟨g', e', hg'.set_t hk (by decide)⟩), H.len⟩
    obtain ⟨A', m', c', q1, q2, q3⟩ := H.es i hi
    refine ⟨A', m', c', ?_, q2, fun hp => (by obtain ⟨g', e', hg'⟩ := q3 hp; exact ⟨g', e', hg'.set_t hk (by decide)⟩)⟩
    rw [List.getElem?_set_ne (by omega)]
    exact q1
theorem Ts.b5 {j l m9 c9' : Nat} {A9 : Option Addr} (H : Ts wc wr g9 p A0 Ar Ap c0 cr n0 nr np v2 v3 v4 v5 us) (hj : j < nr) (hu : us[j * 7 + 5]? = some (.slice A9 m9 c9')) (hl : l < m9) :
    ∃ gb x, A9 = some ⟨gb, 0, none⟩ ∧ Bytes8 wr wc.heap.size gb m9 ∧ wr.frozen? ⟨gb, l, none⟩ = false ∧ (0 : Int) ≤ x ∧ x < 256 ∧ wr.cell? ⟨gb, l, none⟩ = some (.int .u8 x) := by
  obtain ⟨A', m', c', q1, q2, q3⟩ := H.es j hj
  rw [hu] at q1
  injection q1 with q1
  injection q1 with r1 r2 r3
  subst r1 r2 r3
  obtain ⟨gb, e1, hb⟩ := q3 (by omega)
  obtain ⟨_, f, x, x0, x1, hc⟩ := hb.at hl
  exact ⟨gb, x, e1, hb, f, x0, x1, hc⟩
theorem Ts.bp {l : Nat} (H : Ts wc wr g9 p A0 Ar Ap c0 cr n0 nr np v2 v3 v4 v5 us) (hl : l < np) :
    ∃ gb x, Ap = some ⟨gb, 0, none⟩ ∧ Bytes8 wr wc.heap.size gb np ∧ wr.frozen? ⟨gb, l, none⟩ = false ∧ (0 : Int) ≤ x ∧ x < 256 ∧ wr.cell? ⟨gb, l, none⟩ = some (.int .u8 x) := by
  obtain ⟨gb, e1, hb⟩ := H.part (by omega)
  obtain ⟨_, f, x, x0, x1, hc⟩ := hb.at hl
  exact ⟨gb, x, e1, hb, f, x0, x1, hc⟩
theorem Ts.br {l : Nat} (H : Ts wc wr g9 p A0 Ar Ap c0 cr n0 nr np v2 v3 v4 v5 us) (hl : l < n0) :
    ∃ gb x, A0 = some ⟨gb, 0, none⟩ ∧ Bytes8 wr wc.heap.size gb n0 ∧ wr.frozen? ⟨gb, l, none⟩ = false ∧ (0 : Int) ≤ x ∧ x < 256 ∧ wr.cell? ⟨gb, l, none⟩ = some (.int .u8 x) := by
  obtain ⟨gb, e1, hb⟩ := H.reg (by omega)
  obtain ⟨_, f, x, x0, x1, hc⟩ := hb.at hl
  exact ⟨gb, x, e1, hb, f, x0, x1, hc⟩
end
/-- behind Decode and Part -/
theorem Ts.start {wc wr : World} {g9 : Nat} {a : SA} {s : Sb} {Ap : Option Addr} {cp : Nat} {q : List Nat} (hk : Blk wr g9 34 (stateC a s)) (ho : OwnS wc wr a s) (hp : OwnB wc wr Ap q.length cp q) (hM : s.m.Ok) (hf : ∀ e ∈ s.rest, e.c.Fits) (hn : s.rest.length ≤ 1000)
    (hq : q.length ≤ 1000) (hb : ∀ x ∈ q, x < 256) (hB : Below wc.heap.size wc wr) :
    ∃ us, Ts wc wr g9 s.pos a.m.o.A0 a.Ar Ap a.m.o.c0 a.cr s.m.o.reg.length s.rest.length q.length (.slice a.m.o.A1 s.m.o.q.length a.m.o.c1) (.slice a.m.o.A2 s.m.o.lk.length a.m.o.c2) (.slice a.m.o.A3 s.m.o.mp.length a.m.o.c3) (.slice a.m.At s.m.t.length a.m.ct) us := by
  obtain ⟨us, h1, h2⟩ := ho.r
  refine ⟨us, hB, hk, h1, fun j hj => ?_, soft_own ho.m.o.o0 hM.o.regb, soft_own hp hb, ⟨by have := hM.o.reg; omega, hn, hq⟩⟩
  obtain ⟨e, he⟩ : ∃ e, s.rest[j]? = some e := ⟨_, List.getElem?_eq_getElem hj⟩
  obtain ⟨ca, q1, q2⟩ := h2.cell j e he
  have hfe := hf e (List.mem_of_getElem? he)
  exact ⟨ca.Av, e.c.val.length, ca.cv, q1 5 _ rfl, by have := hfe.val.1; omega, soft_own q2.v hfe.val.2⟩
end Go.Proofs.YtmekamgohonffaaGreat

