/- ObjsApart: the walk, over any contracts of the code's. -/
import Derived.Test.YtcmjpjhaaookfaaObjsC0
import Derived.Deep.CutBlock
import Derived.Deep.QuietTactic
import Derived.BigQuiet
import Derived.Deep.RegionHeld3
namespace Go.Proofs.Ytcmjpjhaaookfaa
open Go.RowKit
set_option linter.unusedVariables false
/-- the objects of the loop, in block g -/
structure ApS (w wr : World) (g : Nat) (a : OA) (s : Ob) : Prop where
  blk : Blk wr g 32 (objC a s)
  own : OwnO w wr a s
  inv : s.Inv
  bel : Below w.heap.size w wr
  lo : w.heap.size ≤ g
/-- behind Apply: its objects in block h, its result behind -/
structure ApM (w wx : World) (g k h : Nat) (a : OA) (s : Ob) (ca : CA) (c : Cm) (a' : OA) (t : Ob) (A' : Option Addr) (c' : Nat) (v : List Nat) (e n : Int) : Prop where
  b1 : Blk wx g 32 (objC a s)
  b2 : Blk wx k 24 (cmdC ca c)
  b3 : Blk wx h 32 (objC a' t)
  b4 : Blk wx (h + 1) 34 #[.int .i64 e, .slice A' v.length c', .int .i64 n]
  o1 : OwnO w wx a s
  o2 : OwnO w wx a' t
  i1 : s.Inv
  i2 : t.Inv
  bel : Below w.heap.size w wx
  lo : w.heap.size ≤ g
  gh : g ≠ h
theorem ApM.below {w wx wy : World} {g k h : Nat} {a : OA} {s : Ob} {ca : CA} {c : Cm} {a' : OA} {t : Ob} {A' : Option Addr} {c' : Nat} {v : List Nat} {e n : Int} (H : ApM w wx g k h a s ca c a' t A' c' v e n) (hb : Below wx.heap.size wx wy) : ApM w wy g k h a s ca c a' t A' c' v e n :=
  ⟨H.b1.below hb, H.b2.below hb, H.b3.below hb, H.b4.below hb, H.o1.below hb, H.o2.below hb, H.i1, H.i2, H.bel.trans (hb.mono H.bel.size), H.lo, H.gh⟩
theorem sameQ_quiet {w : World} {A A' : Option Addr} {n c n' c' B B' : Nat} {qs qs' : List (List Nat)} {p : Bool} (hp : decide (qs = qs') = p) (hb : BytesL qs) (hb' : BytesL qs') (h : RdQ w B A n qs) (h' : RdQ w B' A' n' qs') (hn : n ≤ maxLen) (hn' : n' ≤ maxLen) (k : Nat) :
    Calls Try.prog 22 #[.slice A n c, .slice A' n' c'] (w.drewN k) fun e w' => e = .returned (.bool p) ∧ ∃ m, w' = (w.drewN k).drewN m := by
  rw [← hp]
  exact sameRows_any (w.drewN k) hb hb' (h.below ⟨rfl, rfl, rfl, Nat.le_refl _, fun _ _ => rfl⟩) (h'.below ⟨rfl, rfl, rfl, Nat.le_refl _, fun _ _ => rfl⟩) hn hn'
/-- a region whose operations are written as two lists -/
theorem wp_region_app {P : Program} {id : Nat} {l m n : List Oper} {Q : Exit → Act → World → Prop} {a : Act} {w : World} (hn : l.append m = n) (h : wpList P n.toArray Q n a w) : (Code.region id (l.append m).toArray false).wp P Q a w := by
  rw [hn]; exact wp_region_lit h
set_option maxHeartbeats 4000000 in
set_option maxRecDepth 100000 in
theorem objsApart_core (hC : ApplyC8) (hA : AwakeC8) (a0 : Option Addr) (len0 cap0 : Nat) (z0 : List Int) (w : World) (w0 : IsRow .i64 w a0 len0 cap0 z0) :
    Calls Try.prog 6 #[.slice a0 len0 cap0] w fun e w' => e = .returned (.bool true) ∧ Below w.heap.size w w' := by
  obtain ⟨hz, hzl, hle0, hcap0⟩ := w0.ints
  obtain ⟨zs, hzs⟩ : ∃ zs, zs = z0.take len0 := ⟨_, rfl⟩
  rw [← hzs] at hz hzl
  have hn0 : len0 ≤ 9223372036854775807 := Nat.le_trans hle0 hcap0
  have HZ := Lib.hid hz
  have HS0 : Hid (ApS w (w.alloc (.cells #[.slice none 0 0, .slice none 0 0, .slice none 0 0, .slice none 0 0] 32)) w.heap.size ⟨none, 0, none, 0, none, 0, none, 0⟩ ⟨[], [], [], []⟩) := Lib.hid ⟨Blk.new _ _ _, ⟨own_nil _ _, OwnQ.nil _ _, ownI_nil _ _, OwnP.nil _ _⟩, Ob.Inv.nil, (Below.refl _ _).alloc (Nat.le_refl _) _, Nat.le_refl _⟩
  clear w0 hcap0 hzs hz
  go_enter Try.func6, Try.ntmps6
  go_wp2_with fail
  generalize w.heap.size = g at HS0 ⊢
  go_loopw [4] (fun s4 wr => ∃ (i : Nat) (a : OA) (s : Ob), i ≤ len0 ∧ s4 = .int .i64 (i : Int) ∧ Hid (ApS w wr g a s)) (fun s4 _ => len0 - (intOf s4).toNat)
  case atStart => exact ⟨0, _, _, Nat.zero_le _, rfl, HS0⟩
  case round =>
    clear HS0
    obtain ⟨i, a, s, hi, rfl, HS⟩ := hrel
    by_cases hlt : i < len0 ∧ i < 60
    · obtain ⟨hlt, h60⟩ := hlt
      have hk1 : (i : Int) < (len0 : Int) := by omega
      have hk2 : (i : Int) < 60 := by omega
      have hwi : IntKind.i64.wrap ((i : Int) + 1) = (i : Int) + 1 := IntWalk.i64_in _ (by omega)
      obtain ⟨z, hz⟩ : ∃ z, zs[i]? = some z := ⟨_, List.getElem?_eq_getElem (by omega)⟩
      have hzc := (HZ.out.below HS.out.bel).fit
      obtain ⟨b, o, rfl, _⟩ := hzc.int_at hlt
      have hc0 := hzc.int_cell hlt hz
      clear hz hzc
      go_wp2_with fail
      refine (cmd_any _ _).mono ?_
      rintro e w1 ⟨ca, c, rfl, hF, hrc, hb1⟩
      have hb2 : Below wr.heap.size wr (w1.alloc (.cells (cmdC ca c) 24)) := hb1.alloc hb1.size _
      have HS2 : Hid (ApS w (w1.alloc (.cells (cmdC ca c) 24)) g a s) := Lib.hid ⟨HS.out.blk.below hb2, HS.out.own.below hb2, HS.out.inv, HS.out.bel.trans (hb2.mono HS.out.bel.size), HS.out.lo⟩
      have HRC := Lib.hid ((hrc.below ((Below.refl _ _).alloc (Nat.le_refl _) (.cells (cmdC ca c) 24))).fit)
      have HK := Lib.hid (Blk.new w1 24 (cmdC ca c))
      have HF := Lib.hid hF
      clear hc0 hrc hb1 hb2 hF HS
      obtain ⟨x0, x1, x2, x3, _, _, _, _⟩ := four HS2.out.blk
      obtain ⟨y0, y1, y2, y3, y4⟩ := five HK.out
      unfold cmdV
      simp only [cmdC] at x0 x1 x2 x3 y0 y1 y2 y3 y4 ⊢
      go_wp2_with fail
      obtain ⟨k, hk⟩ : ∃ k, w1.heap.size = k := ⟨_, rfl⟩
      obtain ⟨w2, hw2⟩ : ∃ x, w1.alloc (.cells #[.int .i64 c.kind, .int .i64 c.who, .slice ca.Ak c.key.length ca.ck, .slice ca.Av c.val.length ca.cv, .slice ca.Ao c.old.length ca.co] 24) = x := ⟨_, rfl⟩
      simp only [cmdC] at HS2 HRC HK
      rw [hw2] at HS2 HRC HK x0 x1 x2 x3 y0 y1 y2 y3 y4 ⊢
      rw [hk] at HK y0 y1 y2 y3 y4 ⊢
      clear hw2 hk x0 x1 x2 x3 y0 y1 y2 y3 y4
      have HA4 := Lib.hid (s.apart4 c)
      have HIv := Lib.hid (HS2.out.inv.apply HF.out)
      refine (hC (W := w) HS2.out.inv HF.out HS2.out.own.rd HRC.out HS2.out.bel).mono ?_
      obtain ⟨⟨t, e, v, n⟩, hr⟩ : ∃ r, s.apply c = r := ⟨_, rfl⟩
      rw [hr] at HA4 HIv ⊢
      clear hr
      rintro en w3 ⟨a', A', c', rfl, hown, hov, hB3, hb3⟩
      unfold objV resV
      simp only [objC] at HA4 HIv hown hov ⊢
      have b5 : Below w3.heap.size w3 ((w3.alloc (.cells #[.slice a'.A0 t.reg.length a'.c0, .slice a'.A1 t.q.length a'.c1, .slice a'.A2 t.lk.length a'.c2, .slice a'.A3 t.mp.length a'.c3] 32)).alloc (.cells #[.int .i64 e, .slice A' v.length c', .int .i64 n] 34)) := ((Below.refl _ _).alloc (Nat.le_refl _) _).alloc (by simp) _
      have hbb := hb3.trans (b5.mono hb3.size)
      have hg2 := HS2.out.blk.lt
      have hg3 := hb3.size
      have HM : Hid (ApM w ((w3.alloc (.cells #[.slice a'.A0 t.reg.length a'.c0, .slice a'.A1 t.q.length a'.c1, .slice a'.A2 t.lk.length a'.c2, .slice a'.A3 t.mp.length a'.c3] 32)).alloc (.cells #[.int .i64 e, .slice A' v.length c', .int .i64 n] 34)) g k w3.heap.size a s ca c a' t A' c' v e n) := Lib.hid ⟨HS2.out.blk.below hbb, HK.out.below hbb, (Blk.new _ _ _).alloc _, by
          have := Blk.new (w3.alloc (.cells #[.slice a'.A0 t.reg.length a'.c0, .slice a'.A1 t.q.length a'.c1, .slice a'.A2 t.lk.length a'.c2, .slice a'.A3 t.mp.length a'.c3] 32)) 34 #[.int .i64 e, .slice A' v.length c', .int .i64 n]
          rwa [World.size_alloc] at this, HS2.out.own.below hbb, hown.below b5, HS2.out.inv, HIv.out, hB3.trans (b5.mono hB3.size), HS2.out.lo, by omega⟩
      clear hown hov hB3 hb3 b5 hbb hg2 hg3 HS2 HRC HK HIv
      go_upto_region 7 with fail
      generalize w3.heap.size = h at HM ⊢
      obtain ⟨w4, hw4⟩ : ∃ x, (w3.alloc (.cells #[.slice a'.A0 t.reg.length a'.c0, .slice a'.A1 t.q.length a'.c1, .slice a'.A2 t.lk.length a'.c2, .slice a'.A3 t.mp.length a'.c3] 32)).alloc (.cells #[.int .i64 e, .slice A' v.length c', .int .i64 n] 34) = x := ⟨_, rfl⟩
      rw [hw4] at HM ⊢
      clear hw4
      obtain ⟨p1, hp1⟩ : ∃ p, decide (s.reg = t.reg) = p := ⟨_, rfl⟩
      obtain ⟨p2, hp2⟩ : ∃ p, decide (s.q = t.q) = p := ⟨_, rfl⟩
      obtain ⟨p3, hp3⟩ : ∃ p, decide (s.lk = t.lk) = p := ⟨_, rfl⟩
      obtain ⟨p4, hp4⟩ : ∃ p, decide (s.mp = t.mp) = p := ⟨_, rfl⟩
      rw [hp1, hp2, hp3, hp4] at HA4
      have HP1 := Lib.hid hp1
      have HP2 := Lib.hid hp2
      have HP3 := Lib.hid hp3
      have HP4 := Lib.hid hp4
      clear hp1 hp2 hp3 hp4
      go_cut [8, 9] from 33 to 44 (fun s8 s9 wx => s8 = .bool p1 ∧ s9 = .bool p2 ∧ Hid (ApM w wx g k h a s ca c a' t A' c' v e n))
      case first =>
        obtain ⟨x0, x1, x2, x3, _, _, _, _⟩ := four HM.out.b1
        obtain ⟨y0, y1, y2, y3, _, _, _, _⟩ := four HM.out.b3
        have r1 := HM.out.o1.rd
        have r2 := HM.out.o2.rd
        have k1 := fun q => str_of (c := a.c0) (r1.r0.drewN q)
        have k2 := fun q => str_of (c := a'.c0) (r2.r0.drewN q)
        have k3 := strL_eq HM.out.i1.regb HM.out.i2.regb
        rw [HP1.out] at k3
        have m1 : s.q.length ≤ maxLen := by have := HM.out.i1.ql; unfold maxLen; omega
        have m2 : t.q.length ≤ maxLen := by have := HM.out.i2.ql; unfold maxLen; omega
        have HQ := Lib.hid (sameQ_quiet (c := a.c1) (c' := a'.c1) HP2.out HM.out.i1.qb HM.out.i2.qb r1.r1 r2.r1 m1 m2)
        clear r1 r2 m1 m2
        go_quiet ((go_at_call 22; exact Calls.quiet_of (HQ.out _)))
        go_wp2_with fail
        go_meet
        exact ⟨rfl, rfl, Lib.hid (HM.out.below ⟨rfl, rfl, rfl, Nat.le_refl _, fun _ _ => rfl⟩)⟩
      case rest =>
        obtain ⟨rfl, rfl, HM2⟩ := hcut
        clear HM
        rename World => w5
        go_upto_region 8 with fail
        go_cut [10] from 45 to 51 (fun s10 wx => s10 = .bool p3 ∧ Hid (ApM w wx g k h a s ca c a' t A' c' v e n))
        case first =>
          obtain ⟨x0, x1, x2, x3, _, _, _, _⟩ := four HM2.out.b1
          obtain ⟨y0, y1, y2, y3, _, _, _, _⟩ := four HM2.out.b3
          have r1 := HM2.out.o1.rd
          have r2 := HM2.out.o2.rd
          have HQ : Hid (Calls Try.prog 17 #[.agg #[.slice none 0 0, .slice none 0 0, .slice a.A2 s.lk.length a.c2, .slice none 0 0], .agg #[.slice none 0 0, .slice none 0 0, .slice a'.A2 t.lk.length a'.c2, .slice none 0 0]] w5 fun e w' => e = .returned (.bool p3) ∧ Below w5.heap.size w5 w') := Lib.hid (by
            have hh := sameO_any w5 (a := ⟨none, 0, none, 0, a.A2, a.c2, none, 0⟩) (a' := ⟨none, 0, none, 0, a'.A2, a'.c2, none, 0⟩) (s := ⟨[], [], s.lk, []⟩) (s' := ⟨[], [], t.lk, []⟩)
              ⟨by simp, by simp, by simp, by simp, by intro l hl; simp at hl, HM2.out.i1.lkl, HM2.out.i1.lkn, Mp.Inv.nil⟩
              ⟨by simp, by simp, by simp, by simp, by intro l hl; simp at hl, HM2.out.i2.lkl, HM2.out.i2.lkn, Mp.Inv.nil⟩
              ⟨Rd.none_ _ _ _, RdQ.nil _ w5.heap.size _, r1.r2, RdP.nil _ _ _, Nat.le_refl _, r1.l2, Nat.le_refl _⟩
              ⟨Rd.none_ _ _ _, RdQ.nil _ w5.heap.size _, r2.r2, RdP.nil _ _ _, Nat.le_refl _, r2.l2, Nat.le_refl _⟩
            rw [show (Ob.same ⟨[], [], s.lk, []⟩ ⟨[], [], t.lk, []⟩) = p3 by rw [← HP3.out]; simp [Ob.same]] at hh
            exact hh)
          clear r1 r2
          go_wp2_with fail
          refine HQ.out.mono ?_
          rintro e' w6 ⟨rfl, hb6⟩
          go_wp2_with fail
          go_meet
          exact ⟨rfl, Lib.hid (HM2.out.below hb6)⟩
        case rest =>
        obtain ⟨rfl, HM3⟩ := hcut
        clear HM2
        rename World => w6
        go_upto_region 9 with fail
        go_cut [11] from 52 to 56 (fun s11 wx => s11 = .bool p4 ∧ Hid (ApM w wx g k h a s ca c a' t A' c' v e n))
        case first =>
          obtain ⟨x0, x1, x2, x3, _, _, _, _⟩ := four HM3.out.b1
          obtain ⟨y0, y1, y2, y3, _, _, _, _⟩ := four HM3.out.b3
          have r1 := HM3.out.o1.rd
          have r2 := HM3.out.o2.rd
          have m1 : s.mp.length ≤ 100000 := by have := HM3.out.i1.mp.few; omega
          have m2 : t.mp.length ≤ 100000 := by have := HM3.out.i2.mp.few; omega
          have hq := samePs_below w6 (c := a.c3) (c' := a'.c3) m1 m2 HM3.out.i1.mp.byt HM3.out.i2.mp.byt r1.r3 r2.r3
          rw [HP4.out] at hq
          have HQ := Lib.hid hq
          clear hq r1 r2 m1 m2
          go_wp2_with fail
          refine HQ.out.mono ?_
          rintro e' w7 ⟨rfl, hb7⟩
          go_wp2_with fail
          go_meet
          exact ⟨rfl, Lib.hid (HM3.out.below hb7)⟩
        case rest =>
        obtain ⟨rfl, HM4⟩ := hcut
        clear HM3
        rename World => w7
        go_upto_region 10 with fail
        go_cut [131] from 57 to 131 (fun s131 wx => s131 = .bool false ∧ wx = w7)
        case first =>
          obtain ⟨y0, y1, y2, y3, y4⟩ := five HM4.out.b2
          have z0 := HM4.out.b4.cell 0
          refine wp_region_app (by simp only [List.append_eq, List.cons_append, List.nil_append]; exact rfl) ?_
          rcases HA4.out with ⟨rfl, rfl, rfl, rfl⟩ | ⟨rfl, ⟨rfl, rfl, rfl, rfl, hk⟩ | ⟨rfl, rfl, rfl, rfl, hk⟩ | ⟨rfl, rfl, rfl, rfl, hk⟩ | ⟨rfl, rfl, rfl, rfl, hk⟩⟩
          · by_cases he : e = 0
            · subst he
              go_wp2_with fail
              go_meet
              exact ⟨rfl, rfl⟩
            · have he1 : (e == 0) = false := by simpa using he
              have he2 : (e != 0) = true := by simpa using he
              clear he
              go_wp2_with fail
              go_meet
              exact ⟨rfl, rfl⟩
          all_goals
            rcases hk with hk | hk
            all_goals
              rw [hk] at y0
              have HK9 := Lib.hid hk
              clear hk
              go_wp2_with fail
              go_meet
              exact ⟨rfl, rfl⟩
        case rest =>
        obtain ⟨rfl, hw7⟩ := hcut
        subst hw7
        rename World => w7
        obtain ⟨x0, x1, x2, x3, f0, f1, f2, f3⟩ := four HM4.out.b1
        obtain ⟨y0, y1, y2, y3, _, _, _, _⟩ := four HM4.out.b3
        have ho2 := HM4.out.o2
        have hi2 := HM4.out.i2
        have hbl := HM4.out.b1
        have hbe := HM4.out.bel
        have hlo := HM4.out.lo
        have hgb := Lib.hid (show ApS w ((((w7.setCell ⟨g, 0, none⟩ (.slice a'.A0 t.reg.length a'.c0)).setCell ⟨g, 1, none⟩ (.slice a'.A1 t.q.length a'.c1)).setCell ⟨g, 2, none⟩ (.slice a'.A2 t.lk.length a'.c2)).setCell ⟨g, 3, none⟩ (.slice a'.A3 t.mp.length a'.c3)) g a' t from
          ⟨(((hbl.set_ 0 _).set_ 1 _).set_ 2 _).set_ 3 _,
            (((ho2.set_t hbl (by decide) (by decide) (by decide) (by decide)).set_t (hbl.set_ 0 _) (by decide) (by decide) (by decide) (by decide)).set_t ((hbl.set_ 0 _).set_ 1 _) (by decide) (by decide) (by decide) (by decide)).set_t (((hbl.set_ 0 _).set_ 1 _).set_ 2 _) (by decide) (by decide) (by decide) (by decide),
            hi2, (((hbe.setCell (p := ⟨g, 0, none⟩) hlo _).setCell (p := ⟨g, 1, none⟩) hlo _).setCell (p := ⟨g, 2, none⟩) hlo _).setCell (p := ⟨g, 3, none⟩) hlo _, hlo⟩)
        clear ho2 hi2 hbl hbe hlo
        go_wp2_with fail
        go_roundw
        case rel => exact ⟨i + 1, a', t, by omega, by go_num, hgb⟩
        case measure => simp [intOf]; omega
    · by_cases h1 : i < len0
      · have h2 : ¬ (i : Int) < 60 := by omega
        have h3 : (i : Int) < (len0 : Int) := by omega
        go_wp2_with fail
        refine (hA _).mono ?_
        rintro e w1 ⟨rfl, hb⟩
        go_wp2_with fail
        go_ret
        exact ⟨rfl, HS.out.bel.trans (hb.mono HS.out.bel.size)⟩
      · have h3 : ¬ (i : Int) < (len0 : Int) := by omega
        go_wp2_with fail
        refine (hA _).mono ?_
        rintro e w1 ⟨rfl, hb⟩
        go_wp2_with fail
        go_ret
        exact ⟨rfl, HS.out.bel.trans (hb.mono HS.out.bel.size)⟩
end Go.Proofs.Ytcmjpjhaaookfaa
