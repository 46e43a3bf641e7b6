/- BookCode6 RegionInvB -/
import Derived.Test.YtaknfmionkkdjaaGreatFO08
import Derived.Test.YtaknfmionkkdjaaGreatFO37
import Derived.Test.YtaknfmionkkdjaaGreatFO42
namespace Go.Proofs.YtaknfmionkkdjaaGreat
open Go.RowKit
set_option linter.unusedVariables false
theorem OwnC.keepsE {S : Nat → Prop} {T : List TypeId} {W w w' : World} {a : CA} {k : Cm} (h : OwnC W w a k) (hk : Keeps S w w') (ho : Of S T w) (h1 : 5 ∉ T) : OwnC W w' a k := ⟨ownsRow_keeps h.k hk ho h1, ownsRow_keeps h.v hk ho h1, ownsRow_keeps h.o hk ho h1⟩
/-- the state's variable while it is made -/
structure StB (w wx : World) (g3 g2 : Nat) (pos : Int) (aM : MA) (m : Mc) (A : Option Addr) (j c : Nat) (es : List En) : Prop where
  blk : Blk wx g3 52 #[.int .i64 pos, .slice aM.o.A0 m.o.reg.length aM.o.c0, .slice aM.o.A1 m.o.q.length aM.o.c1, .slice aM.o.A2 m.o.lk.length aM.o.c2, .slice aM.o.A3 m.o.mp.length aM.o.c3, .slice aM.At m.t.length aM.ct, .slice A j c]
  res : Blk wx g2 52 #[.int .i64 0, .slice none 0 0, .slice none 0 0, .slice none 0 0, .slice none 0 0, .slice none 0 0, .slice none 0 0]
  own : OwnEs w wx A j c es
  mac : OwnM w wx aM m
  bel : Below w.heap.size w wx
  hg : w.heap.size ≤ g3
  h2 : w.heap.size ≤ g2
  ne : g2 ≠ g3
section
variable {w wx wy : World} {g3 g2 : Nat} {pos : Int} {aM : MA} {m : Mc} {A : Option Addr} {j c : Nat} {es : List En}
theorem StB.below (h : StB w wx g3 g2 pos aM m A j c es) (hb : Below wx.heap.size wx wy) : StB w wy g3 g2 pos aM m A j c es := ⟨h.blk.below hb, h.res.below hb, h.own.below hb, h.mac.below hb, h.bel.trans (hb.mono h.bel.size), h.hg, h.h2, h.ne⟩
theorem StB.more {A3 : Option Addr} {c3 : Nat} {vs : List Value} {ca : CA} {e : En} (h : StB w wx g3 g2 pos aM m A j c es) (hv1 : wx.ownsRow w.heap.size 40 7 (.slice A j c) j vs) (hv2 : CellsE (fun a k => OwnC w wx a k) vs es) (hr : OwnC w wx ca e.c) (hg : wx.grownBy wy (Value.slice A j c).ownBlock) (ho2 : wy.ownsRow w.heap.size 40 7 (.slice A3 (j + 1) c3) (j + 1) (vs ++ entL ca e)) :
    Blk wy g3 52 #[.int .i64 pos, .slice aM.o.A0 m.o.reg.length aM.o.c0, .slice aM.o.A1 m.o.q.length aM.o.c1, .slice aM.o.A2 m.o.lk.length aM.o.c2, .slice aM.o.A3 m.o.mp.length aM.o.c3, .slice aM.At m.t.length aM.ct, .slice A j c] ∧ StB w (wy.setCell ⟨g3, 6, none⟩ (.slice A3 (j + 1) c3)) g3 g2 pos aM m A3 (j + 1) c3 (es ++ [e]) := by
  have k1 := h.blk.apart_own hv1 (by decide) hg
  have k2 := h.res.apart_own hv1 (by decide) hg
  have hs := OwnEs.snoc hv1 hv2 hr hg ho2
  have km := h.mac.grownE hv1 hg
  have kb : Below w.heap.size w wy := h.bel.grown hg h.bel.size (fun k hk => (hv1.lt k hk).1)
  have gs := grown_set wy g3 6 (.slice A3 (j + 1) c3)
  have kk : Keeps (fun q => q = g3) wy (wy.setCell ⟨g3, 6, none⟩ (.slice A3 (j + 1) c3)) := Keeps.of_grown gs (fun q e => by injection e with e; exact e.symm)
  have oo : Of (fun q => q = g3) [52] wy := fun q hq _ => by subst hq; exact ⟨_, _, _, k1, by simp⟩
  refine ⟨k1, k1.set_ 6 _, k2.set_other h.ne, ?_, km.keeps kk oo (by decide) (by decide) (by decide) (by decide) (by decide), kb.setCell h.hg _, h.hg, h.h2, h.ne⟩
  obtain ⟨us, q1, q2⟩ := hs
  exact ⟨us, ownsRow_keeps q1 kk oo (by decide), q2.imp fun _ _ q => q.keepsE kk oo (by decide)⟩
end
set_option maxHeartbeats 8000000 in
set_option maxRecDepth 100000 in
theorem bkState (w : World) {S : Nat → Prop} {b : Nat} {k : Bk} (h : BkAt w S b k) {s : Sb} (hs : k.state = s) (hw : k.wh ≤ k.pos + 90000) :
    Calls Tryz.prog 12 #[.pointer (some ⟨b, 0, none⟩)] w fun en w' => ∃ a, en = .returned (stateV a s) ∧ OwnS w w' a s ∧ Below w.heap.size w w' := by
  have hok := h.ok
  obtain ⟨pos, hpos⟩ : ∃ p, k.pos = p := ⟨_, rfl⟩
  obtain ⟨m, hm⟩ : ∃ m, k.m = m := ⟨_, rfl⟩
  obtain ⟨f, hf⟩ : ∃ f, k.f = f := ⟨_, rfl⟩
  obtain ⟨wh, hwh⟩ : ∃ p, k.wh = p := ⟨_, rfl⟩
  have hle := hok.w.le
  have hp0 := hok.p0
  have hp1 := hok.p1
  have HAt := Lib.hid (fun wx (hb : Below w.heap.size w wx) => bkAt wx (h.below hb))
  have HWh := Lib.hid (fun wx (hb : Below w.heap.size w wx) => bkWhole wx (h.below hb))
  have HMa := Lib.hid (fun wx (hb : Below w.heap.size w wx) => bkMachine wx (h.below hb) hm)
  have HGe := Lib.hid (fun wx (hb : Below w.heap.size w wx) i => bkGet wx (h.below hb) i rfl)
  rw [hpos] at hle hp0 hp1 hw HAt
  rw [hwh] at hle hw HWh
  rw [hf] at HGe
  obtain ⟨N, hN⟩ : ∃ N : Nat, (wh - pos).toNat = N := ⟨_, rfl⟩
  unfold Bk.state at hs
  rw [hpos, hm, hf, hwh, hN] at hs
  have hwN : wh = pos + (N : Int) := by omega
  have hN9 : N ≤ 90000 := by omega
  have HS := Lib.hid hs
  subst hwN
  clear h hok hpos hm hf hwh hle hw hN hs
  have hw1 : IntKind.i64.wrap (pos + 1) = pos + 1 := IntWalk.i64_in _ (by omega)
  go_enter Tryz.func12, Tryz.ntmps12
  go_upto_region 1 with fail
  obtain ⟨g2, w1, hgE, hwE, hbE, hkE⟩ := alloced w #[.int .i64 0, .slice none 0 0, .slice none 0 0, .slice none 0 0, .slice none 0 0, .slice none 0 0, .slice none 0 0] 52
  rw [hgE, hwE]
  have HB1 := Lib.hid hbE
  have HK2 := Lib.hid hkE
  have HG2 := Lib.hid hgE
  clear hgE hwE hbE hkE
  go_upto_region 2 with (first
    | (go_at_call 26; refine (HAt.out w1 HB1.out).mono ?_; rintro en w2 ⟨rfl, rfl⟩)
    | (go_at_call 16; refine (HMa.out w1 HB1.out).mono ?_; rintro en w2 ⟨aM, rfl, hom, hb2⟩; unfold machV machC
       have HOM := Lib.hid (hom.of HB1.out.size)
       have HB2 := Lib.hid (HB1.out.trans (hb2.mono HB1.out.size))
       have HK22 := Lib.hid (HK2.out.below hb2)
       clear hom hb2)
    | (refine wpList_store_row rfl 52 (.tmp 3) (.tmp 11) rfl w2.heap.size #[.int .i64 pos, .slice aM.o.A0 m.o.reg.length aM.o.c0, .slice aM.o.A1 m.o.q.length aM.o.c1, .slice aM.o.A2 m.o.lk.length aM.o.c2, .slice aM.o.A3 m.o.mp.length aM.o.c3, .slice aM.At m.t.length aM.ct, .slice none 0 0] rfl rfl 52 #[.int .i64 0, .slice none 0 0, .slice none 0 0, .slice none 0 0, .slice none 0 0, .slice none 0 0, .slice none 0 0] (Blk.new w2 52 #[.int .i64 0, .slice none 0 0, .slice none 0 0, .slice none 0 0, .slice none 0 0, .slice none 0 0, .slice none 0 0]) (by kernel_rfl) rfl (by kernel_rfl) ?_)
    | fail)
  obtain ⟨g3, w3, hg3, hw3, hb3, hk3⟩ := boxed w2 #[.int .i64 0, .slice none 0 0, .slice none 0 0, .slice none 0 0, .slice none 0 0, .slice none 0 0, .slice none 0 0] #[.int .i64 pos, .slice aM.o.A0 m.o.reg.length aM.o.c0, .slice aM.o.A1 m.o.q.length aM.o.c1, .slice aM.o.A2 m.o.lk.length aM.o.c2, .slice aM.o.A3 m.o.mp.length aM.o.c3, .slice aM.At m.t.length aM.ct, .slice none 0 0] 52
  rw [hg3, hw3]
  have HST : Hid (StB w w3 g3 g2 pos aM m none 0 0 []) := Lib.hid ⟨hk3, HK22.out.below hb3, OwnEs.nil _ _, HOM.out.below hb3, HB2.out.trans (hb3.mono HB2.out.size), by rw [← hg3]; exact HB2.out.size, by have := HG2.out; omega, by have := HK22.out.lt; omega⟩
  clear hg3 hw3 hb3 hk3 HOM HB2 HK22 HMa HK2 HB1 HG2
  go_upto_region 3 with (first
    | (go_at_call 26; refine (HAt.out w3 HST.out.bel).mono ?_; rintro en w2 ⟨rfl, rfl⟩)
    | fail)
  go_loopw [4] (fun s4 wr => ∃ (j : Nat) (A1 : Option Addr) (c1 : Nat), j ≤ N ∧ s4 = .int .i64 (pos + 1 + (j : Int)) ∧ Hid (StB w wr g3 g2 pos aM m A1 j c1 (Bk.rest f j pos))) (fun s4 _ => (pos + 1 + (N : Int) - intOf s4).toNat)
  case atStart => exact ⟨0, none, 0, Nat.zero_le _, by simp, HST⟩
  case round =>
    clear HST
    obtain ⟨j, A1, c1, hj, rfl, HX⟩ := hrel
    obtain ⟨i, hi⟩ : ∃ i : Int, pos + 1 + (j : Int) = i := ⟨_, rfl⟩
    have HI := Lib.hid hi
    rw [hi]
    by_cases hlt : j < N
    · have hlt' : i ≤ pos + (N : Int) := by omega
      have hwi : IntKind.i64.wrap (i + 1) = i + 1 := IntWalk.i64_in _ (by omega)
      obtain ⟨x, hx⟩ : ∃ x, f i = x := ⟨_, rfl⟩
      have HGx := Lib.hid (HGe.out wr HX.out.bel i)
      rw [hx] at HGx
      obtain ⟨e, he⟩ : ∃ e, x.getD En.zero = e := ⟨_, rfl⟩
      obtain ⟨ok, hok⟩ : ∃ e, x.isSome = e := ⟨_, rfl⟩
      unfold GotE16 at HGx
      rw [he, hok] at HGx
      have HE : Hid (Bk.rest f (j + 1) pos = Bk.rest f j pos ++ [e]) := Lib.hid (by rw [Bk.rest_snoc, hi, hx, he])
      clear hi hx he hok
      go_upto_region 5 with (first
        | (go_at_call 27; refine (HWh.out wr HX.out.bel).mono ?_; rintro en w2 ⟨rfl, rfl⟩)
        | fail)
      go_upto_region 6 with (first
        | (go_at_call 23; refine HGx.out.mono ?_; rintro en w4 ⟨ca, rfl, hoc, hb4⟩
           have HOC := Lib.hid (hoc.of9 HX.out.bel.size)
           have HX4 := Lib.hid (HX.out.below hb4)
           clear hoc hb4)
        | (refine wpList_store_row rfl 40 (.tmp 5) (.tmp 25) rfl w4.heap.size (entC ca e) rfl rfl 40 #[.int .i64 0, .int .i64 0, .int .i64 0, .int .i64 0, .slice none 0 0, .slice none 0 0, .slice none 0 0] (Blk.new w4 40 #[.int .i64 0, .int .i64 0, .int .i64 0, .int .i64 0, .slice none 0 0, .slice none 0 0, .slice none 0 0]) (by kernel_rfl) rfl (by kernel_rfl) ?_)
        | fail)
      obtain ⟨g5, w5, hg5, hw5, hb5, hk5⟩ := boxed w4 #[.int .i64 0, .int .i64 0, .int .i64 0, .int .i64 0, .slice none 0 0, .slice none 0 0, .slice none 0 0] (entC ca e) 40
      rw [hg5, hw5]
      have HX5 := Lib.hid (HX4.out.below hb5)
      have HOC5 := Lib.hid (HOC.out.belowB hb5)
      have HK5 := Lib.hid hk5
      clear hg5 hw5 hb5 hk5 HX4 HOC HX HGx
      have x6 : w5.cell? ⟨g3, 6, none⟩ = some (.slice A1 j c1) := HX5.out.blk.cell 6
      have b1 : Below w5.heap.size w5 (w5.alloc (.cells (entC ca e) 40)) := (Below.refl _ _).alloc (Nat.le_refl _) _
      obtain ⟨vs, q1, q2⟩ := (HX5.out.below b1).own
      have HV1 := Lib.hid q1
      have HV2 := Lib.hid q2
      have HX6 := Lib.hid (HX5.out.below b1)
      have HOC6 := Lib.hid (HOC5.out.belowB b1)
      clear q1 q2 b1
      unfold entC at HX6 HV1 HV2 HOC6
      go_wp2_with (first
        | (refine wpList_load_row rfl 40 (.tmp 5) rfl g5 rfl 40 #[.int .i64 e.s, .int .i64 e.q, .int .i64 e.c.kind, .int .i64 e.c.who, .slice ca.Ak e.c.key.length ca.ck, .slice ca.Av e.c.val.length ca.cv, .slice ca.Ao e.c.old.length ca.co] (0, 0) _ HK5.out Tryz.underlying40 rfl (by kernel_rfl) ?_)
        | (at_builtin
           refine wpList_append_atE w.heap.size HX6.out.bel.size cellE (.tmp 28) (.tmp 30) rfl (by rfl) rfl HV1.out rfl (Rd.entAt _ ca e _ rfl) (entL_one _ _) (by omega) (by omega) ?_
           intro A3 c3 w7 hown7 hg7
           obtain ⟨z1, z2⟩ := HX6.out.more HV1.out HV2.out HOC6.out hg7 hown7
           have HZ := Lib.hid z2
           have y6 := z1.cell 6
           have f6 := z1.frozen 6
           simp at y6
           clear hown7 hg7 z1 z2 x6)
        | fail)
      go_roundw
      case rel => exact ⟨j + 1, A3, c3, by omega, by have := HI.out; go_num, Lib.hid (by rw [HE.out]; exact HZ.out)⟩
      case measure => have := HI.out; simp only [intOf]; omega
    · have hlt' : ¬ i ≤ pos + (N : Int) := by omega
      have hjN : j = N := by omega
      clear hi
      go_upto_region 7 with (first
        | (go_at_call 27; refine (HWh.out wr HX.out.bel).mono ?_; rintro en w2 ⟨rfl, rfl⟩)
        | fail)
      go_wp2_with (first
        | (refine wpList_load_row rfl 52 (.tmp 3) rfl g3 rfl 52 #[.int .i64 pos, .slice aM.o.A0 m.o.reg.length aM.o.c0, .slice aM.o.A1 m.o.q.length aM.o.c1, .slice aM.o.A2 m.o.lk.length aM.o.c2, .slice aM.o.A3 m.o.mp.length aM.o.c3, .slice aM.At m.t.length aM.ct, .slice A1 j c1] (0, 0) _ HX.out.blk Tryz.underlying52 rfl (by kernel_rfl) ?_)
        | (refine wpList_store_row rfl 52 (.tmp 2) (.tmp 33) rfl g2 #[.int .i64 pos, .slice aM.o.A0 m.o.reg.length aM.o.c0, .slice aM.o.A1 m.o.q.length aM.o.c1, .slice aM.o.A2 m.o.lk.length aM.o.c2, .slice aM.o.A3 m.o.mp.length aM.o.c3, .slice aM.At m.t.length aM.ct, .slice A1 j c1] rfl rfl 52 #[.int .i64 0, .slice none 0 0, .slice none 0 0, .slice none 0 0, .slice none 0 0, .slice none 0 0, .slice none 0 0] HX.out.res (by kernel_rfl) rfl (by kernel_rfl) ?_)
        | fail)
      refine bodyPost_ret (results_cell_row rfl _ _ _ _ _ _ _ rfl (Blk.row HX.out.res #[.int .i64 pos, .slice aM.o.A0 m.o.reg.length aM.o.c0, .slice aM.o.A1 m.o.q.length aM.o.c1, .slice aM.o.A2 m.o.lk.length aM.o.c2, .slice aM.o.A3 m.o.mp.length aM.o.c3, .slice aM.At m.t.length aM.ct, .slice A1 j c1]) Tryz.underlying52 rfl (by kernel_rfl)) rfl ?_
      have kk : Keeps (fun q => q = g2) wr (wr.setRow g2 #[.int .i64 pos, .slice aM.o.A0 m.o.reg.length aM.o.c0, .slice aM.o.A1 m.o.q.length aM.o.c1, .slice aM.o.A2 m.o.lk.length aM.o.c2, .slice aM.o.A3 m.o.mp.length aM.o.c3, .slice aM.At m.t.length aM.ct, .slice A1 j c1]) := Keeps.of_only (only_row wr g2 _) rfl
      have oo : Of (fun q => q = g2) [52] wr := fun q hq _ => by subst hq; exact ⟨_, _, _, HX.out.res, by simp⟩
      subst hjN
      have hl : (Bk.rest f j pos).length = j := Bk.rest_len f j pos
      refine ⟨⟨aM, A1, c1⟩, ?_, ⟨?_, ?_⟩, below_setRow HX.out.bel HX.out.h2 _⟩
      · rw [← HS.out]
        unfold stateV stateC
        simp only
        rw [hl]
      · rw [← HS.out]
        exact HX.out.mac.keeps kk oo (by decide) (by decide) (by decide) (by decide) (by decide)
      · rw [← HS.out]
        simp only
        rw [hl]
        obtain ⟨vs, q1, q2⟩ := HX.out.own
        exact ⟨vs, ownsRow_keeps q1 kk oo (by decide), q2.imp fun _ _ q => q.keepsE kk oo (by decide)⟩
end Go.Proofs.YtaknfmionkkdjaaGreat

namespace Go.Proofs.YtaknfmionkkdjaaGreat
open Go.RowKit
set_option linter.unusedVariables false
/-- nothing that was there is turned -/
def Bw (w w' : World) : Prop := Below w.heap.size w w'
section
variable {P : Program} {md : Region.Mode} {ops : Array Oper} {Q : Exit → Act → World → Prop}
/-- one operation: wanted ('wt') it is done, else its place holds nothing -/
def OpOKB (P : Program) (Q : Exit → Act → World → Prop) (w0 : World) (V : Nat → Value → World → Prop) (dst : Nat → Nat) (deps : Nat → List Nat) (Fr : Act → Prop) (wt : Bool) (i : Nat) (o : Oper) : Prop :=
  ∀ (a : Act) (w : World), Fr a → Below w0.heap.size w0 w → (∀ j ∈ deps i, V j (a.eval (.tmp (dst j))) w) → ∀ K : Act → World → Prop, Shut (∀ v w', Bw w w' → Below w0.heap.size w0 w' → V i v w' → K (a.put o.dst v) w') →
    if wt = true then Oper.wp P o a w K Q else K (a.put o.dst undef) w
theorem region_invB {id : Nat} (frame : (Nat → Value) → Act) (dst : Nat → Nat) (deps : Nat → List Nat) (want : Nat → Bool) (V : Nat → Value → World → Prop) (Fr : Act → Prop) {w0 w : World} {U0 : Nat → Value} (hm : P.follows .mixedOrders = true) (hb : goesBack .any ops = true)
    (hinj : ∀ i j, i < ops.size → j < ops.size → dst i = dst j → i = j) (hdst : ∀ i o, ops[i]? = some o → o.dst = some (dst i)) (hdeps : ∀ i, i < ops.size → ∀ j ∈ deps i, Region.waitsFor .any ops i j = true)
    (hwant : ∀ i o, ops[i]? = some o → ∀ U w, (∀ j ∈ deps i, V j (U (dst j)) w) → Region.wanted o (yielded ops (frame U).tmps) = want i)
    (hput : ∀ i o, ops[i]? = some o → ∀ U v, (frame U).put (some (dst i)) v = frame (fun n => if n = dst i then v else U n)) (hev : ∀ i o, ops[i]? = some o → ∀ U, (frame U).eval (.tmp (dst i)) = U (dst i)) (hfr : ∀ U, Fr (frame U))
    (hst : ∀ i v w w', V i v w → Bw w w' → V i v w') (hB : Below w0.heap.size w0 w) (hok : ∀ i o, ops[i]? = some o → OpOKB P Q w0 V dst deps Fr (want i) i o)
    (hdone : ∀ U w', Below w0.heap.size w0 w' → (∀ i, i < ops.size → V i (U (dst i)) w') → Q .normal (frame U) w') : (Code.region id ops true).wp P Q (frame U0) w := by
  refine wp_region_any hm (wpAny_inv (I := fun listed a w => ∃ U, a = frame U ∧ Below w0.heap.size w0 w ∧ listed.size = ops.size ∧ ∀ i, i < ops.size → listed.getD i false = true → V i (U (dst i)) w) hb (fun listed a w h => by obtain ⟨_, _, _, h, _⟩ := h; exact h) ?_ ?_ ops.size _ _ _
    ⟨U0, rfl, hB.drew, by simp, fun i hi h => by simp [hi] at h⟩ ?_)
  · rintro listed a w i o ⟨U, rfl, hBw, hs, hV⟩ hi ho K hK
    have hd := hdst i o ho
    have hlt := (Array.getElem?_eq_some_iff.1 ho).1
    have hdep : ∀ j ∈ deps i, V j (U (dst j)) w := fun j hj => by
      have h1 := ready_dep (hdeps i hlt j hj) hi
      have hjl : j < ops.size := by
        rcases Nat.lt_or_ge j listed.size with h' | h'
        · omega
        · simp [Array.getElem?_eq_none h'] at h1
      exact hV j hjl h1
    have hjs : ∀ j ∈ deps i, j < ops.size := fun j hj => by
      have h1 := ready_dep (hdeps i hlt j hj) hi
      rcases Nat.lt_or_ge j listed.size with h' | h'
      · omega
      · simp [Array.getElem?_eq_none h'] at h1
    rw [hwant i o ho U w hdep]
    refine hok i o ho (frame U) w (hfr U) hBw (fun j hj => ?_) K (fun v w' he hB' hv => hK _ _ ⟨fun n => if n = dst i then v else U n, ?_, hB', by simp [hs], fun j hj hl => ?_⟩)
    · have hjl := hjs j hj
      rw [hev j ops[j] (Array.getElem?_eq_getElem hjl)]
      exact hdep j hj
    · rw [hd]; exact hput i o ho U v
    · by_cases hji : j = i
      · subst hji; show V j (if dst j = dst j then v else U (dst j)) w'; rw [if_pos rfl]; exact hv
      · have hne : dst j ≠ dst i := fun e => hji (hinj j i hj hlt e)
        simp only [if_neg hne]
        rw [getD_set_ne false (Ne.symm hji)] at hl
        exact hst j _ _ _ (hV j hj hl) he
  · rintro listed a w ⟨U, rfl, hBw, hs, hV⟩ hall
    exact hdone U w hBw (fun i hi => hV i hi (hall i hi))
  · unfold unl
    exact Nat.le_trans (List.length_filter_le _ _) (by simp)
end
end Go.Proofs.YtaknfmionkkdjaaGreat

