/- BookCode5 RegMac -/
import Derived.Test.YtaknfmionkkdjaaGreatFO20
import Derived.Test.YtaknfmionkkdjaaGreatFO46
import Derived.Test.YtaknfmionkkdjaaGreatFO47
namespace Go.Proofs.YtaknfmionkkdjaaGreat
open Go.RowKit
set_option linter.unusedVariables false
theorem bkNext (w : World) {S : Nat → Prop} {b : Nat} {k : Bk} (h : BkAt w S b k) (hlt : k.pos < k.wh) (h40 : k.wh ≤ 1099511627776) {p : Int} {e : En} {r : MAns} {k2 : Bk} (hp : k.pos + 1 = p) (he : (k.f p).getD En.zero = e) (hr : k.m.step e = r) (hk : (⟨r.m, p, Bk.cut k.f p, k.wh⟩ : Bk) = k2) :
    Calls Tryz.prog 36 #[.pointer (some ⟨b, 0, none⟩)] w fun en w' => GotDn w w ⟨p, e, r⟩ en w' ∧ GotBk S w b k2 w' := by
  obtain ⟨aM, g, fr, wh, A, n, c, ss, h1, rfl⟩ := h
  subst hp hk
  have h2 := h1.pos
  have h3 := h1.whole
  exact bkNextM w h1 (by omega) (by omega) he hr
theorem Bk.cut_cut (f : Int → Option En) (p q : Int) (h : p ≤ q) : Bk.cut (Bk.cut f p) q = Bk.cut f q := by
  funext i
  unfold Bk.cut
  by_cases h1 : i ≤ q
  · rw [if_pos h1, if_pos h1]
  · rw [if_neg h1, if_neg h1, if_neg (by omega)]
theorem Bk.cut_no (k : Bk) (hk : k.Ok) : Bk.cut k.f k.pos = k.f := by
  funext i
  unfold Bk.cut
  split
  · rename_i h; exact (hk.lo i h).symm
  · rfl
/-- a book of which j entries were applied -/
def Bk.at_ (k : Bk) (j : Nat) : Bk := ⟨(Bk.play k.f j k.pos k.m).1, k.pos + j, Bk.cut k.f (k.pos + j), k.wh⟩
theorem Bk.at_zero (k : Bk) (hk : k.Ok) : k.at_ 0 = k := by
  unfold Bk.at_
  rw [show (k.pos + ((0 : Nat) : Int)) = k.pos by omega, k.cut_no hk]
  rfl
theorem Bk.apply_at (k : Bk) (t : Int) : k.apply t = k.at_ (k.cnt t) := rfl
theorem run_minB {P : Program} (w : World) (ts : Array TypeId) (t : TypeId) (a b : Int) : (Builtin.min_ ts t #[.int .i64 a, .int .i64 b]).run P w = .ok (.int .i64 (min a b)) w := by
  have e : min a b = if b < a then b else a := by omega
  rw [e]
  simp [Builtin.min_, Builtin.min2]
def lenV : Value → Nat
  | .slice _ n _ => n
  | _ => 0
theorem BkAt.grown {w w' : World} {S : Nat → Prop} {b : Nat} {k : Bk} {base size n c : Nat} {e : TypeId} {A : Option Addr} {vs : List Value} (h : BkAt w S b k) (ho : w.ownsRow base e size (.slice A n c) n vs) (h0 : e ∉ TB) (h1 : 5 ∉ [e]) (h2 : 26 ∉ [e]) (h3 : 3 ∉ [e]) (h4 : 55 ∉ [e]) (h5 : 57 ∉ [e]) (hg : w.grownBy w' (Value.slice A n c).ownBlock) : BkAt w' S b k := by
  rcases own_blk ho with ⟨h6, h7⟩ | ⟨g', cur, h6, hgb, hk'⟩
  · rw [h6] at hg
    exact h.below ⟨hg.os, hg.tape, hg.output, hg.size, fun q hq => hg.block q hq (by simp [Value.ownBlock])⟩
  · rw [h6] at hg
    refine h.keeps (S0 := fun q => q = g') (T := [e]) (Keeps.of_grown hg (fun q hq => by simpa [Value.ownBlock] using hq.symm)) (fun q hq _ => by subst hq; exact ⟨_, _, _, hk', by simp⟩) h1 h2 h3 h4 h5 ?_
    rintro q hq rfl
    exact h.of.not hk' h0 hq
theorem Adv.grown {S S' : Nat → Prop} {w w1 w2 : World} {size n : Nat} {e : TypeId} {v : Value} {vs : List Value} (h : Adv S w S' w1) (ho : w1.ownsRow w.heap.size e size v n vs) (hg : w1.grownBy w2 v.ownBlock) : Adv S w S' w2 :=
  ⟨h.keeps.trans (Keeps.of_grown (S := fun q => v.ownBlock = some q) hg (fun q hq => hq)) (fun q hq hlt => by have := (ho.lt q hq).1; omega), h.grow⟩
/-- what Apply answers -/
def GotAp (S : Nat → Prop) (w : World) (b : Nat) (k2 : Bk) (ds : List Bk.Dn) (en : Ending) (w' : World) : Prop := ∃ A c, en = .returned (.slice A ds.length c) ∧ OwnDs w w' A ds.length c ds ∧ GotBk S w b k2 w'
set_option maxHeartbeats 8000000 in
set_option maxRecDepth 100000 in
theorem bkApply (w : World) {S : Nat → Prop} {b : Nat} {k : Bk} (h : BkAt w S b k) (t : Int) {k2 : Bk} {ds : List Bk.Dn} (hk : k.apply t = k2) (hd : k.dones t = ds) (hw : k.wh ≤ k.pos + 90000) (h40 : k.wh ≤ 1099511627776) :
    Calls Tryz.prog 10 #[.pointer (some ⟨b, 0, none⟩), .int .i64 t] w (GotAp S w b k2 ds) := by
  have hok := h.ok
  have hp0 := hok.p0
  have hle := hok.w.le
  have HOK := Lib.hid hok
  have H := Lib.hid h
  have HW := Lib.hid (bkWhole w h)
  obtain ⟨N, hN⟩ : ∃ N, k.cnt t = N := ⟨_, rfl⟩
  rw [k.apply_at, hN] at hk
  unfold Bk.dones at hd
  rw [hN] at hd
  obtain ⟨T, hT⟩ : ∃ T, min t k.wh = T := ⟨_, rfl⟩
  unfold Bk.cnt Bk.top at hN
  rw [hT] at hN
  have hmin := fun (w : World) ts ty => run_minB (P := Tryz.prog) w ts ty t k.wh
  rw [hT] at hmin
  have hN2 : (N : Nat) ≤ 90000 := by omega
  have HK := Lib.hid hk
  have HD := Lib.hid hd
  have HN := Lib.hid hN
  have HB := Lib.hid (And.intro hT (And.intro hle (And.intro hp0 (And.intro hw h40))))
  have HTB : Hid (-9223372036854775808 ≤ T ∨ True) := Lib.hid (.inr trivial)
  obtain ⟨pos, hpos⟩ : ∃ p, k.pos = p := ⟨_, rfl⟩
  obtain ⟨wh, hwh⟩ : ∃ p, k.wh = p := ⟨_, rfl⟩
  have HPW := Lib.hid (And.intro hpos hwh)
  rw [hwh] at HW hmin
  clear h hok hp0 hle hT hN hk hd hw h40 hpos hwh
  go_enter Tryz.func10, Tryz.ntmps10
  go_upto_region 3 with (first
    | (go_at_call 27; refine HW.out.mono ?_; rintro en w2 ⟨rfl, rfl⟩)
    | fail)
  go_loopw [5] (fun s5 wr => ∃ (j : Nat) (A1 : Option Addr) (c1 : Nat) (S1 : Nat → Prop), j ≤ N ∧ s5 = .slice A1 j c1 ∧ Hid (OwnDs w wr A1 j c1 (Bk.play k.f j k.pos k.m).2) ∧ Hid (BkAt wr S1 b (k.at_ j)) ∧ Hid (Adv S w S1 wr)) (fun s5 _ => N - lenV s5)
  case atStart => exact ⟨0, none, 0, S, Nat.zero_le _, rfl, Lib.hid (OwnDs.nil _ _), Lib.hid (by rw [k.at_zero HOK.out]; exact H.out), Lib.hid (Adv.refl _ _)⟩
  case round =>
    obtain ⟨j, A1, c1, S1, hj, rfl, HO, HA, HV⟩ := hrel
    obtain ⟨p, hp⟩ : ∃ p, k.pos + (j : Int) = p := ⟨_, rfl⟩
    have HAt := Lib.hid (bkAt wr HA.out)
    have e0 : (k.at_ j).pos = p := hp
    rw [e0] at HAt
    have HP := Lib.hid hp
    have hN1 := HN.out
    clear e0
    by_cases hlt : j < N
    · have hpT : p < T := by omega
      obtain ⟨e, he⟩ : ∃ e, ((k.at_ j).f (p + 1)).getD En.zero = e := ⟨_, rfl⟩
      obtain ⟨r, hr⟩ : ∃ r, (k.at_ j).m.step e = r := ⟨_, rfl⟩
      have hcf : Bk.cut k.f p (p + 1) = k.f (p + 1) := if_neg (by omega)
      have hek : (k.f (k.pos + 1 + (j : Int))).getD En.zero = e := by
        rw [← he]
        show _ = (Bk.cut k.f (k.pos + (j : Int)) (p + 1)).getD En.zero
        rw [hp, hcf]
        congr 2
        omega
      have hsnoc := Bk.play_snoc k.f j k.pos k.m
      rw [hek] at hsnoc
      have hrm : (Bk.play k.f j k.pos k.m).1.step e = r := hr
      rw [hrm, show k.pos + 1 + (j : Int) = p + 1 by omega] at hsnoc
      have hnext : (⟨r.m, p + 1, Bk.cut (k.at_ j).f (p + 1), (k.at_ j).wh⟩ : Bk) = k.at_ (j + 1) := by
        unfold Bk.at_
        rw [hsnoc, show (k.pos + ((j + 1 : Nat) : Int)) = p + 1 by omega, hp]
        simp only
        rw [Bk.cut_cut k.f p (p + 1) (by omega)]
      have hb1 := HB.out
      have HNX := Lib.hid (fun wx (hx : BkAt wx S1 b (k.at_ j)) => bkNext wx hx (by rw [show (k.at_ j).pos = p from hp]; show p < k.wh; omega) (by show k.wh ≤ _; omega) (p := p + 1) (by rw [show (k.at_ j).pos = p from hp]) he hr hnext)
      have HSN := Lib.hid hsnoc
      clear hnext hsnoc hrm hek hcf hr he hp hN1 hb1
      go_upto_region 4 with (first
        | (go_at_call 26; refine HAt.out.mono ?_; rintro en w2 ⟨rfl, rfl⟩)
        | fail)
      go_wp2_with (first
        | (go_at_call 36; refine (HNX.out wr HA.out).mono ?_; rintro en w3 ⟨⟨ca, A3, c3, rfl, hoc, hov⟩, S2, hba, hadv⟩
           simp only [doneL]
           have HOC := Lib.hid (hoc.of9 HV.out.keeps.size)
           have HOV := Lib.hid (more_ HV.out.keeps.size hov)
           have HBA := Lib.hid hba
           have HDs := Lib.hid (HO.out.keeps hadv.keeps HA.out.of (by decide) (by decide))
           have HAD := Lib.hid (HV.out.trans hadv)
           obtain ⟨vs, hv1, hv2⟩ := HDs.out
           clear hoc hov hba hadv)
        | (at_builtin
           refine wpList_append_atE (base := w.heap.size) (Nat.le_trans HAD.out.keeps.size (by simp)) cellD (.tmp 14) (.tmp 17) rfl (by rfl) rfl (ownsRow_below hv1 ((Below.refl _ _).alloc (Nat.le_refl _) _)) rfl (Rd.doneAt _ ca A3 c3 ⟨p + 1, e, r⟩ _ rfl) (doneL_one _ _ _ _) (by omega) (by omega) ?_
           intro A4 c4 w4 hown4 hg4)
        | fail)
      go_roundw
      case rel =>
        have b1 : Below w3.heap.size w3 (w3.alloc (.cells (doneL ca A3 c3 ⟨p + 1, e, r⟩).toArray 49)) := (Below.refl _ _).alloc (Nat.le_refl _) _
        have hs := OwnDs.snoc (d := ⟨p + 1, e, r⟩) (A1 := A3) (c1 := c3) (a := ca) (ownsRow_below hv1 b1) (hv2.imp (fun _ _ h => h.below9 b1) (fun _ _ _ h => ownsRow_below h b1)) (HOC.out.below9 b1) (ownsRow_below HOV.out b1) hg4 hown4
        refine ⟨j + 1, A4, c4, S2, by omega, rfl, Lib.hid ?_, Lib.hid ?_, Lib.hid ?_⟩
        · rw [HSN.out]; exact hs
        · exact (HBA.out.below b1).grown (ownsRow_below hv1 b1) (by decide) (by decide) (by decide) (by decide) (by decide) (by decide) hg4
        · exact (HAD.out.trans (Adv.of_below _ b1)).grown (ownsRow_below hv1 b1) hg4
      case measure => simp only [lenV]; omega
    · have hNj : j = N := by omega
      have hpT : ¬ p < T := by omega
      clear hp hN1
      go_upto_region 4 with (first
        | (go_at_call 26; refine HAt.out.mono ?_; rintro en w2 ⟨rfl, rfl⟩)
        | fail)
      go_wp2_with fail
      go_ret
      subst hNj
      have hl : (Bk.play k.f j k.pos k.m).2.length = j := Bk.play_len _ _ _ _
      refine ⟨A1, c1, ?_, ?_, S1, ?_, HV.out⟩
      · rw [← HD.out, hl]; rfl
      · rw [← HD.out, hl]; exact HO.out
      · rw [← HK.out]; exact HA.out
end Go.Proofs.YtaknfmionkkdjaaGreat

namespace Go.Proofs.YtaknfmionkkdjaaGreat
open Go.RowKit
set_option linter.unusedVariables false
theorem wanted_ofM {o : Oper} {y : Nat → Option Bool} {j : Nat} {b c r : Bool} (hg : o.guard = some (j, b)) (hy : y j = some c) (hr : (c == b) = r) : Region.wanted o y = r := by
  subst hr; unfold Region.wanted; rw [hg]; simp [hy]
theorem yielded_ofM {ops : Array Oper} {tmps : Array Value} {j s : Nat} {b : Bool} (ho : (ops[j]?).bind (·.dst) = some s) (ht : tmps[s]? = some (.bool b)) : yielded ops tmps j = some b := by
  unfold yielded; rw [ho, Option.bind_some, ht]
theorem deps_ofM {md : Region.Mode} {ops : Array Oper} {deps : Nat → List Nat} (h : ((List.range ops.size).all fun i => (deps i).all fun j => Region.waitsFor md ops i j) = true) : ∀ i, i < ops.size → ∀ j ∈ deps i, Region.waitsFor md ops i j = true := by
  intro i hi j hj
  exact List.all_eq_true.1 (List.all_eq_true.1 h i (List.mem_range.2 hi)) j hj
theorem ev_tmpM {a : Act} {t : Nat} {v : Value} (h : a.eval (.tmp t) = v) : a.tmps[t]?.getD undef = v := by rw [← h]; simp [Act.eval]
inductive KM where
  | eq (u : Value)
  | mac (m : Mc)
  | any
def VM (ks : List KM) (i : Nat) (v : Value) (w : World) : Prop := match ks[i]? with
  | some (.eq u) => v = u
  | some (.mac m) => ∃ a, v = machV a m ∧ RdM w w.heap.size a m
  | _ => True
theorem VM.ext (ks : List KM) (i : Nat) (v : Value) (w w' : World) (h : VM ks i v w) (he : Bw w w') : VM ks i v w' := by
  unfold VM at h ⊢
  cases hk : ks[i]? with
  | none => trivial
  | some k =>
    rw [hk] at h
    cases k with
    | eq u => exact h
    | mac m => obtain ⟨a, h1, h2⟩ := h; exact ⟨a, h1, h2.below' he⟩
    | any => trivial
end Go.Proofs.YtaknfmionkkdjaaGreat

