/- FramWrap MesgAwake RegionInvG -/
import Derived.Test.YtmdkbmafkglhdaaG03
import Derived.Test.YtmdkbmafkglhdaaG07
import Derived.Test.YtmdkbmafkglhdaaG35
import Derived.Test.YtmdkbmafkglhdaaG43
import Derived.Test.YtmdkbmafkglhdaaG46
import Derived.ArgAppend
import Derived.OwnWalk
namespace Go.Proofs.Ytmdkbmafkglhdaa
open Go.RowKit
set_option linter.unusedVariables false
theorem Mg.enc_cases {m : Mg} (hw : m.Wide) : m.enc.length ≤ 1000 ∧ ∀ x ∈ m.enc, x < 256 := by
  cases h : m.ok with
  | true => exact ⟨Mg.enc_len h, Mg.enc_lt h hw⟩
  | false => rw [Mg.enc_none h]; exact ⟨by simp, fun x hx => by cases hx⟩
set_option maxHeartbeats 2000000 in
set_option maxRecDepth 100000 in
theorem frwrap_raw {w : World} {a : GA} {m : Mg} {B : Nat} (hM : m.Wide) (hr : RdG w B a m) : Calls Try.prog 17 #[msgV a m] w (GotIn w w (Fr.wrap m)) := by
  obtain ⟨g, hg⟩ : ∃ g, w.heap.size = g := ⟨_, rfl⟩
  obtain ⟨wx, hwx⟩ : ∃ wx, w.alloc (.cells (msgC a m) 29) = wx := ⟨_, rfl⟩
  have hbb : Below w.heap.size w wx := by rw [← hwx]; exact (Below.refl _ _).alloc (Nat.le_refl _) _
  have k1 : Blk wx g 29 (msgC a m) := by rw [← hwx, ← hg]; exact Blk.new _ _ _
  have hE := encode11 (W := w) (w := wx) hM (hr.fit.below hbb) hbb
  have hln := Mg.enc_cases hM
  have hwr : Fr.wrap m = Fr.wrapL m.enc := rfl
  rw [hwr]
  obtain ⟨L, hL⟩ : ∃ x, m.enc = x := ⟨_, rfl⟩
  rw [hL] at hE hln ⊢
  have HE := Lib.hid hE
  have HK1 := Lib.hid k1
  have HWX := Lib.hid hwx
  have HG := Lib.hid hg
  have HLT := Lib.hid hln.2
  have HLN := Lib.hid hln.1
  clear hM hr hbb k1 hwx hg hE hln hwr hL
  unfold msgV msgC at HE
  unfold msgC at HK1 HWX
  unfold msgV msgC
  by_cases h0 : L = []
  · have b0 : ((L.length : Int) == 0) = true := by subst h0; rfl
    have HR : Hid (Fr.wrapL L = []) := Lib.hid (by subst h0; rfl)
    clear h0
    go_enter Try.func17, Try.ntmps17
    go_upto_region 1 with fail
    rw [HG.out, HWX.out]
    clear HWX
    go_wp2_with (first
      | (refine wpList_load_row rfl 29 (.tmp 1) rfl g rfl 29 #[.int .i64 m.kind, .int .i64 m.frm, .int .i64 m.dst, .int .i64 m.view, .int .i64 m.inst, .int .i64 m.len, .bool m.has, .int .i64 m.mem, .int .i64 m.src, .int .i64 m.pos, .int .i64 m.tot, .slice a.Ad m.data.length a.cd, .int .i64 m.hop, .int .i64 m.seq, .slice a.Ah m.hav.length a.ch, .slice a.An m.nee.length a.cn, .int .i64 m.idx, .int .i64 m.ent.s, .int .i64 m.ent.q, .int .i64 m.ent.c.kind, .int .i64 m.ent.c.who, .slice a.c.Ak m.ent.c.key.length a.c.ck, .slice a.c.Av m.ent.c.val.length a.c.cv, .slice a.c.Ao m.ent.c.old.length a.c.co] (0, 0) _ HK1.out Try.underlying29 rfl (by kernel_rfl) ?_)
      | (go_at_call 12; refine HE.out.mono ?_; rintro en w1 ⟨A, c, rfl, ho, hB, hb⟩; have HO := Lib.hid ho; have HB := Lib.hid hB; clear ho hB hb)
      | fail)
    go_ret
    rw [HR.out]
    exact ⟨none, 0, rfl, own_nil _ _, HB.out, HB.out⟩
  · have b0 : ((L.length : Int) == 0) = false := by
      rw [beq_eq_false_iff_ne]
      intro e
      exact h0 (List.length_eq_zero_iff.1 (by omega))
    have HR : Hid (Fr.wrapL L = Fr.four (Crc.sum L) ++ L ∧ 4 + L.length = (Fr.four (Crc.sum L) ++ L).length) := Lib.hid ⟨Fr.wrapL_eq h0, by rw [List.length_append, Fr.four_len]⟩
    clear h0
    go_enter Try.func17, Try.ntmps17
    go_upto_region 1 with fail
    rw [HG.out, HWX.out]
    clear HWX
    go_wp2_with (first
      | (refine wpList_load_row rfl 29 (.tmp 1) rfl g rfl 29 #[.int .i64 m.kind, .int .i64 m.frm, .int .i64 m.dst, .int .i64 m.view, .int .i64 m.inst, .int .i64 m.len, .bool m.has, .int .i64 m.mem, .int .i64 m.src, .int .i64 m.pos, .int .i64 m.tot, .slice a.Ad m.data.length a.cd, .int .i64 m.hop, .int .i64 m.seq, .slice a.Ah m.hav.length a.ch, .slice a.An m.nee.length a.cn, .int .i64 m.idx, .int .i64 m.ent.s, .int .i64 m.ent.q, .int .i64 m.ent.c.kind, .int .i64 m.ent.c.who, .slice a.c.Ak m.ent.c.key.length a.c.ck, .slice a.c.Av m.ent.c.val.length a.c.cv, .slice a.c.Ao m.ent.c.old.length a.c.co] (0, 0) _ HK1.out Try.underlying29 rfl (by kernel_rfl) ?_)
      | (go_at_call 12; refine HE.out.mono ?_; rintro en w1 ⟨A, c, rfl, ho, hB, hb⟩; have HO := Lib.hid ho; have HB := Lib.hid hB; clear ho hB hb)
      | (go_at_call 40; refine (frsum_any HLT.out (by have := HLN.out; unfold maxLen; omega) (Rd.own_ HO.out) HB.out).mono ?_; rintro en w2 ⟨A2, c2, he, ho2, hB2, hb2⟩
         have he2 : en = .returned (.slice A2 4 c2) := he
         have ho2' : OwnB w w2 A2 4 c2 (Fr.four (Crc.sum L)) := ho2
         clear he ho2
         subst he2
         have HS := Lib.hid ho2'
         have HB2 := Lib.hid hB2
         have HO2 := Lib.hid (own_below HO.out hb2)
         clear ho2' hB2 hb2)
      | (at_builtin
         refine wpList_append_bytes (W := w) byteT (.tmp 10) (.tmp 11) rfl (by rfl) rfl HS.out rfl (Rd.own_ HO2.out) (by have := HLN.out; omega) HB2.out ?_
         intro A3 c3 w3 ho3 hr3 hB3
         have HO3 := Lib.hid ho3
         have HB3 := Lib.hid hB3
         clear ho3 hr3 hB3)
      | fail)
    go_ret
    rw [HR.out.1]
    refine ⟨A3, c3, by rw [← HR.out.2]; rfl, ?_, HB3.out, HB3.out⟩
    rw [← HR.out.2]
    exact HO3.out
theorem frwrap_any {W w : World} {a : GA} {m : Mg} {B : Nat} (hM : m.Wide) (hr : RdG w B a m) (hB : Below W.heap.size W w) : Calls Try.prog 17 #[msgV a m] w (GotIn W w (Fr.wrap m)) :=
  (frwrap_raw hM hr).mono fun e w' ⟨A, c, h1, h2, h3, h4⟩ => ⟨A, c, h1, own_of hB.size h2, hB.trans (h3.mono hB.size), h4⟩
theorem frwrap_is {W w : World} {a : GA} {m : Mg} {B : Nat} {l : List Nat} (he : Fr.wrap m = l) (hM : m.Wide) (hr : RdG w B a m) (hB : Below W.heap.size W w) : Calls Try.prog 17 #[msgV a m] w (GotIn W w l) := by
  subst he; exact frwrap_any hM hr hB
end Go.Proofs.Ytmdkbmafkglhdaa

namespace Go.Proofs.Ytmdkbmafkglhdaa
open Go.RowKit
set_option linter.unusedVariables false
namespace mesgA
end mesgA
/-- a load of a whole block, where it is asked for -/
theorem wpList_load_rowG {P : Program} {ops : Array Oper} {rest : List Oper} {o : Oper} {a : Act} {w : World} {Q : Exit → Act → World → Prop} (hw : Region.wanted o (yielded ops a.tmps) = true) (ty : TypeId) (x : Operand) (ho : o.op = .load ty x)
    (g : Nat) (hx : a.eval x = .pointer (some ⟨g, 0, none⟩)) (t : TypeId) (cs : Array Value) (fr : Nat × Nat) (d : TypeDesc) (hg : w.heap[g]? = some (.cells cs t fr))
    (hu : P.underlying ty = some d) (hd : (match d with | .struct _ | .array _ _ => true | _ => false) = true) (hi : (P.info? ty).map (·.size) = some cs.size)
    (h : wpList P ops Q rest (a.put o.dst (.agg cs)) w) : wpList P ops Q (o :: rest) a w := by
  unfold wpList
  rw [if_pos hw]
  exact Or.inl (wp_load_row ty x ho g hx t cs fr d hg hu hd hi h)
end Go.Proofs.Ytmdkbmafkglhdaa

namespace Go.Proofs.Ytmdkbmafkglhdaa
open Go.RowKit
set_option linter.unusedVariables false
section
variable {P : Program} {md : Region.Mode} {ops : Array Oper} {Q : Exit → Act → World → Prop}
/-- one operation: wanted ('wt') it is done, else its place holds nothing -/
def OpOKG (P : Program) (Q : Exit → Act → World → Prop) (w0 : World) (V : Nat → Value → World → Prop) (dst : Nat → Nat) (deps : Nat → List Nat) (Fr : Act → Prop) (wt : Bool) (i : Nat) (o : Oper) : Prop :=
  ∀ (a : Act) (w : World), Fr a → Below w0.heap.size w0 w → (∀ j ∈ deps i, V j (a.eval (.tmp (dst j))) w) → ∀ K : Act → World → Prop, Shut (∀ v w', Ext w w' → Below w0.heap.size w0 w' → V i v w' → K (a.put o.dst v) w') →
    if wt = true then Oper.wp P o a w K Q else K (a.put o.dst undef) w
theorem region_invG {id : Nat} (frame : (Nat → Value) → Act) (dst : Nat → Nat) (deps : Nat → List Nat) (want : Nat → Bool) (V : Nat → Value → World → Prop) (Fr : Act → Prop) {w0 w : World} {U0 : Nat → Value} (hm : P.follows .mixedOrders = true) (hb : goesBack .any ops = true)
    (hinj : ∀ i j, i < ops.size → j < ops.size → dst i = dst j → i = j) (hdst : ∀ i o, ops[i]? = some o → o.dst = some (dst i)) (hdeps : ∀ i, i < ops.size → ∀ j ∈ deps i, Region.waitsFor .any ops i j = true)
    (hwant : ∀ i o, ops[i]? = some o → ∀ U w, (∀ j ∈ deps i, V j (U (dst j)) w) → Region.wanted o (yielded ops (frame U).tmps) = want i)
    (hput : ∀ i o, ops[i]? = some o → ∀ U v, (frame U).put (some (dst i)) v = frame (fun n => if n = dst i then v else U n)) (hev : ∀ i o, ops[i]? = some o → ∀ U, (frame U).eval (.tmp (dst i)) = U (dst i)) (hfr : ∀ U, Fr (frame U))
    (hst : ∀ i v w w', V i v w → Ext w w' → V i v w') (hB : Below w0.heap.size w0 w) (hok : ∀ i o, ops[i]? = some o → OpOKG P Q w0 V dst deps Fr (want i) i o)
    (hdone : ∀ U w', Below w0.heap.size w0 w' → (∀ i, i < ops.size → V i (U (dst i)) w') → Q .normal (frame U) w') : (Code.region id ops true).wp P Q (frame U0) w := by
  refine wp_region_any hm (wpAny_inv (I := fun listed a w => ∃ U, a = frame U ∧ Below w0.heap.size w0 w ∧ listed.size = ops.size ∧ ∀ i, i < ops.size → listed.getD i false = true → V i (U (dst i)) w) hb (fun listed a w h => by obtain ⟨_, _, _, h, _⟩ := h; exact h) ?_ ?_ ops.size _ _ _
    ⟨U0, rfl, hB.drew, by simp, fun i hi h => by simp [hi] at h⟩ ?_)
  · rintro listed a w i o ⟨U, rfl, hBw, hs, hV⟩ hi ho K hK
    have hd := hdst i o ho
    have hlt := (Array.getElem?_eq_some_iff.1 ho).1
    have hdep : ∀ j ∈ deps i, V j (U (dst j)) w := fun j hj => by
      have h1 := ready_dep (hdeps i hlt j hj) hi
      have hjl : j < ops.size := by
        rcases Nat.lt_or_ge j listed.size with h' | h'
        · omega
        · simp [Array.getElem?_eq_none h'] at h1
      exact hV j hjl h1
    have hjs : ∀ j ∈ deps i, j < ops.size := fun j hj => by
      have h1 := ready_dep (hdeps i hlt j hj) hi
      rcases Nat.lt_or_ge j listed.size with h' | h'
      · omega
      · simp [Array.getElem?_eq_none h'] at h1
    rw [hwant i o ho U w hdep]
    refine hok i o ho (frame U) w (hfr U) hBw (fun j hj => ?_) K (fun v w' he hB' hv => hK _ _ ⟨fun n => if n = dst i then v else U n, ?_, hB', by simp [hs], fun j hj hl => ?_⟩)
    · have hjl := hjs j hj
      rw [hev j ops[j] (Array.getElem?_eq_getElem hjl)]
      exact hdep j hj
    · rw [hd]; exact hput i o ho U v
    · by_cases hji : j = i
      · subst hji; show V j (if dst j = dst j then v else U (dst j)) w'; rw [if_pos rfl]; exact hv
      · have hne : dst j ≠ dst i := fun e => hji (hinj j i hj hlt e)
        simp only [if_neg hne]
        rw [getD_set_ne false (Ne.symm hji)] at hl
        exact hst j _ _ _ (hV j hj hl) he
  · rintro listed a w ⟨U, rfl, hBw, hs, hV⟩ hall
    exact hdone U w hBw (fun i hi => hV i hi (hall i hi))
  · unfold unl
    exact Nat.le_trans (List.length_filter_le _ _) (by simp)
end
end Go.Proofs.Ytmdkbmafkglhdaa

