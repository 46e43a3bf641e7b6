/- ObjsPlays: the walk, over any contracts of the code's. -/
import Derived.Test.YtcmjpjhaaookfaaObjsC0
import Derived.Test.YtcmjpjhaaookfaaCmdRow
import Derived.Test.YtcmjpjhaaookfaaBitsKit
import Derived.Deep.CutBlock
import Derived.Deep.QuietTactic
import Derived.BigQuiet
import Derived.Deep.RegionHeld3
namespace Go.Proofs.Ytcmjpjhaaookfaa
open Go.RowKit
set_option linter.unusedVariables false
/-- the objects of the loop, the code's and the document's, in blocks g and g + 1 -/
structure PlS (w wr : World) (g : Nat) (a a' : OA) (s : Ob) : Prop where
  b1 : Blk wr g 32 (objC a s)
  b2 : Blk wr (g + 1) 32 (objC a' s)
  o1 : OwnO w wr a s
  o2 : OwnO w wr a' s
  inv : s.Inv
  bel : Below w.heap.size w wr
  lo : w.heap.size ≤ g
theorem PlS.below {w wr wx : World} {g : Nat} {a a' : OA} {s : Ob} (h : PlS w wr g a a' s) (hb : Below wr.heap.size wr wx) : PlS w wx g a a' s :=
  ⟨h.b1.below hb, h.b2.below hb, h.o1.below hb, h.o2.below hb, h.inv, h.bel.trans (hb.mono h.bel.size), h.lo⟩
/-- .. and the command, in block k -/
structure PlC (w wx : World) (g k : Nat) (a a' : OA) (s : Ob) (ca : CA) (c : Cm) : Prop where
  st : PlS w wx g a a' s
  bk : Blk wx k 24 (cmdC ca c)
  rc : RdC wx wx.heap.size ca c
  fit : c.Fits
  gk : g + 1 < k
theorem PlC.below {w wx wy : World} {g k : Nat} {a a' : OA} {s : Ob} {ca : CA} {c : Cm} (h : PlC w wx g k a a' s ca c) (hb : Below wx.heap.size wx wy) : PlC w wy g k a a' s ca c :=
  ⟨h.st.below hb, h.bk.below hb, h.rc.below' hb, h.fit, h.gk⟩
/-- .. the command written anew, by one that came in -/
theorem PlC.put {w wx : World} {g k : Nat} {a a' : OA} {s : Ob} {ca ca' : CA} {c c' : Cm} (H : PlC w wx g k a a' s ca c) (hrc : RdC w w.heap.size ca' c') (hf : c'.Fits) (x0 x1 x2 x3 x4 : Value) (hx : cmdC ca' c' = #[x0, x1, x2, x3, x4]) :
    PlC w (((((wx.setCell ⟨k, 0, none⟩ x0).setCell ⟨k, 1, none⟩ x1).setCell ⟨k, 2, none⟩ x2).setCell ⟨k, 3, none⟩ x3).setCell ⟨k, 4, none⟩ x4) g k a a' s ca' c' := by
  have q1 : 5 ≠ 24 := by decide
  have q2 : 22 ≠ 24 := by decide
  have q3 : 3 ≠ 24 := by decide
  have q4 : 42 ≠ 24 := by decide
  have k0 : Blk wx k 24 #[.int .i64 c.kind, .int .i64 c.who, .slice ca.Ak c.key.length ca.ck, .slice ca.Av c.val.length ca.cv, .slice ca.Ao c.old.length ca.co] := H.bk
  have k1 := k0.set_ 0 x0
  have k2 := k1.set_ 1 x1
  have k3 := k2.set_ 2 x2
  have k4 := k3.set_ 3 x3
  have k5 := k4.set_ 4 x4
  have hgk := H.gk
  have hlo := H.st.lo
  have hw : w.heap.size ≤ k := by omega
  have bel := ((((H.st.bel.setCell (p := ⟨k, 0, none⟩) hw x0).setCell (p := ⟨k, 1, none⟩) hw x1).setCell (p := ⟨k, 2, none⟩) hw x2).setCell (p := ⟨k, 3, none⟩) hw x3).setCell (p := ⟨k, 4, none⟩) hw x4
  refine ⟨⟨((((H.st.b1.set_other (by omega)).set_other (by omega)).set_other (by omega)).set_other (by omega)).set_other (by omega), ((((H.st.b2.set_other (by omega)).set_other (by omega)).set_other (by omega)).set_other (by omega)).set_other (by omega),
    ((((H.st.o1.set_t k0 q1 q2 q3 q4).set_t k1 q1 q2 q3 q4).set_t k2 q1 q2 q3 q4).set_t k3 q1 q2 q3 q4).set_t k4 q1 q2 q3 q4, ((((H.st.o2.set_t k0 q1 q2 q3 q4).set_t k1 q1 q2 q3 q4).set_t k2 q1 q2 q3 q4).set_t k3 q1 q2 q3 q4).set_t k4 q1 q2 q3 q4, H.st.inv, bel, hlo⟩, ?_, (hrc.below bel).fit, hf, hgk⟩
  rw [hx]; exact k5
/-- .. and the code's answer, in blocks h and h + 1 -/
structure PlA (w wx : World) (g k h : Nat) (a a' : OA) (s : Ob) (ca : CA) (c : Cm) (d : OA) (r : Ans) (A : Option Addr) (cc : Nat) : Prop where
  st : PlC w wx g k a a' s ca c
  bh : Blk wx h 32 (objC d r.s)
  bh1 : Blk wx (h + 1) 34 #[.int .i64 r.e, .slice A r.v.length cc, .int .i64 r.n]
  oh : OwnO w wx d r.s
  ov : OwnB w wx A r.v.length cc r.v
  gh : g + 1 < h
theorem PlA.below {w wx wy : World} {g k h cc : Nat} {a a' d : OA} {s : Ob} {ca : CA} {c : Cm} {r : Ans} {A : Option Addr} (H : PlA w wx g k h a a' s ca c d r A cc) (hb : Below wx.heap.size wx wy) : PlA w wy g k h a a' s ca c d r A cc :=
  ⟨H.st.below hb, H.bh.below hb, H.bh1.below hb, H.oh.below hb, own_below H.ov hb, H.gh⟩
/-- .. and the document's, in blocks j and j + 1 -/
structure PlB (w wx : World) (g k h j : Nat) (a a' : OA) (s : Ob) (ca : CA) (c : Cm) (d d' : OA) (r : Ans) (A : Option Addr) (cc : Nat) (A' : Option Addr) (cc' : Nat) : Prop where
  st : PlA w wx g k h a a' s ca c d r A cc
  bj : Blk wx j 32 (objC d' r.s)
  bj1 : Blk wx (j + 1) 34 #[.int .i64 r.e, .slice A' r.v.length cc', .int .i64 r.n]
  oj : OwnO w wx d' r.s
  ov' : OwnB w wx A' r.v.length cc' r.v
  hj : h + 1 < j
  iv : r.s.Inv
  vb : ∀ x ∈ r.v, x < 256
theorem PlB.below {w wx wy : World} {g k h j cc cc' : Nat} {a a' d d' : OA} {s : Ob} {ca : CA} {c : Cm} {r : Ans} {A A' : Option Addr} (H : PlB w wx g k h j a a' s ca c d d' r A cc A' cc') (hb : Below wx.heap.size wx wy) : PlB w wy g k h j a a' s ca c d d' r A cc A' cc' :=
  ⟨H.st.below hb, H.bj.below hb, H.bj1.below hb, H.oj.below hb, own_below H.ov' hb, H.hj, H.iv, H.vb⟩
/-- the loop's objects are written anew -/
theorem PlS.next {w wx : World} {g h j : Nat} {a a' d d' : OA} {s t : Ob} (H : PlS w wx g a a' s) (ho : OwnO w wx d t) (ho' : OwnO w wx d' t) (hi : t.Inv) (x0 x1 x2 x3 y0 y1 y2 y3 : Value) (hx : objC d t = #[x0, x1, x2, x3]) (hy : objC d' t = #[y0, y1, y2, y3]) :
    PlS w ((((((((wx.setCell ⟨g, 0, none⟩ x0).setCell ⟨g, 1, none⟩ x1).setCell ⟨g, 2, none⟩ x2).setCell ⟨g, 3, none⟩ x3).setCell ⟨g + 1, 0, none⟩ y0).setCell ⟨g + 1, 1, none⟩ y1).setCell ⟨g + 1, 2, none⟩ y2).setCell ⟨g + 1, 3, none⟩ y3) g d d' t := by
  have q1 : 5 ≠ 32 := by decide
  have q2 : 22 ≠ 32 := by decide
  have q3 : 3 ≠ 32 := by decide
  have q4 : 42 ≠ 32 := by decide
  have k0 : Blk wx g 32 #[.slice a.A0 s.reg.length a.c0, .slice a.A1 s.q.length a.c1, .slice a.A2 s.lk.length a.c2, .slice a.A3 s.mp.length a.c3] := H.b1
  have l0 : Blk wx (g + 1) 32 #[.slice a'.A0 s.reg.length a'.c0, .slice a'.A1 s.q.length a'.c1, .slice a'.A2 s.lk.length a'.c2, .slice a'.A3 s.mp.length a'.c3] := H.b2
  have k1 := k0.set_ 0 x0
  have k2 := k1.set_ 1 x1
  have k3 := k2.set_ 2 x2
  have k4 := k3.set_ 3 x3
  have l4 := (((l0.set_other (i := 0) (u := x0) (b := g) (by omega)).set_other (i := 1) (u := x1) (b := g) (by omega)).set_other (i := 2) (u := x2) (b := g) (by omega)).set_other (i := 3) (u := x3) (b := g) (by omega)
  have l5 := l4.set_ 0 y0
  have l6 := l5.set_ 1 y1
  have l7 := l6.set_ 2 y2
  have l8 := l7.set_ 3 y3
  have hw : w.heap.size ≤ g + 1 := by have := H.lo; omega
  have own : ∀ {e t}, OwnO w wx e t → OwnO w ((((((((wx.setCell ⟨g, 0, none⟩ x0).setCell ⟨g, 1, none⟩ x1).setCell ⟨g, 2, none⟩ x2).setCell ⟨g, 3, none⟩ x3).setCell ⟨g + 1, 0, none⟩ y0).setCell ⟨g + 1, 1, none⟩ y1).setCell ⟨g + 1, 2, none⟩ y2).setCell ⟨g + 1, 3, none⟩ y3) e t := fun h =>
    (((((((h.set_t k0 q1 q2 q3 q4).set_t k1 q1 q2 q3 q4).set_t k2 q1 q2 q3 q4).set_t k3 q1 q2 q3 q4).set_t l4 q1 q2 q3 q4).set_t l5 q1 q2 q3 q4).set_t l6 q1 q2 q3 q4).set_t l7 q1 q2 q3 q4
  refine ⟨?_, ?_, own ho, own ho', hi, (((((((H.bel.setCell (p := ⟨g, 0, none⟩) H.lo _).setCell (p := ⟨g, 1, none⟩) H.lo _).setCell (p := ⟨g, 2, none⟩) H.lo _).setCell (p := ⟨g, 3, none⟩) H.lo _).setCell (p := ⟨g + 1, 0, none⟩) hw _).setCell (p := ⟨g + 1, 1, none⟩) hw _).setCell (p := ⟨g + 1, 2, none⟩) hw _).setCell (p := ⟨g + 1, 3, none⟩) hw _, H.lo⟩
  · rw [hx]
    exact (((k4.set_other (i := 0) (u := y0) (b := g + 1) (by omega)).set_other (i := 1) (u := y1) (b := g + 1) (by omega)).set_other (i := 2) (u := y2) (b := g + 1) (by omega)).set_other (i := 3) (u := y3) (b := g + 1) (by omega)
  · rw [hy]; exact l8
set_option maxHeartbeats 8000000 in
set_option maxRecDepth 100000 in
theorem objsPlays_core (hC : ApplyC8) (hO : OkC8) (hS : SameC8) (hR : SameResC8) (hA : AwakeC8) (a0 : Option Addr) (len0 cap0 : Nat) (z0 : List Int) (a1 : Option Addr) (len1 cap1 : Nat) (z1 : List Cm) (w : World) (w0 : IsRow .i64 w a0 len0 cap0 z0) (w1 : IsRowC w a1 len1 cap1 z1) :
    Calls Try.prog 5 #[.slice a0 len0 cap0, .slice a1 len1 cap1] w fun e w' => e = .returned (.bool true) ∧ Below w.heap.size w w' := by
  obtain ⟨hz, hzl, hle0, hcap0⟩ := w0.ints
  obtain ⟨zs, hzs⟩ : ∃ zs, zs = z0.take len0 := ⟨_, rfl⟩
  rw [← hzs] at hz hzl
  obtain ⟨hr1, hle1, hcap1⟩ := w1
  have hn0 : len0 ≤ 9223372036854775807 := Nat.le_trans hle0 hcap0
  have hn1 : len1 ≤ 9223372036854775807 := Nat.le_trans hle1 hcap1
  have HZ := Lib.hid hz
  have HZL := Lib.hid hzl
  have HR := Lib.hid hr1
  clear w0 hcap0 hzs hz hr1 hle0 hle1 hcap1 hzl
  go_enter Try.func5, Try.ntmps5
  go_wp2_with fail
  go_loopw [5, 16] (fun _ s16 wr => ∃ i : Nat, i ≤ len1 ∧ s16 = .int .i64 (i : Int) ∧ Hid (∀ (m : Nat) (c : Cm), m < i → z1[m]? = some c → c.key.length ≤ 60 ∧ c.val.length ≤ 60 ∧ c.old.length ≤ 60) ∧ w = wr) (fun _ s16 _ => len1 - (intOf s16).toNat)
  case atStart => exact ⟨0, Nat.zero_le _, rfl, Lib.hid (fun m c hm => absurd hm (by omega)), rfl⟩
  case round =>
    obtain ⟨i, hi, rfl, HS, rfl⟩ := hrel
    by_cases hlt : i < len1
    · have hlti : (i : Int) < (len1 : Int) := by omega
      obtain ⟨b, o, ca, c, rfl, hc, q0, q1, q2, q3, q4, _, _⟩ := HR.out.at hlt
      have HC := Lib.hid hc
      have hwi : IntKind.i64.wrap ((i : Int) + 1) = (i : Int) + 1 := IntWalk.i64_in _ (by omega)
      clear hc
      by_cases h1 : (c.key.length : Int) ≤ 60
      · have h1' : ¬ (60 : Int) < (c.key.length : Int) := by omega
        by_cases h2 : (c.val.length : Int) ≤ 60
        · have h2' : ¬ (60 : Int) < (c.val.length : Int) := by omega
          by_cases h3 : (c.old.length : Int) ≤ 60
          · have h3' : ¬ (60 : Int) < (c.old.length : Int) := by omega
            have H123 := Lib.hid (show c.key.length ≤ 60 ∧ c.val.length ≤ 60 ∧ c.old.length ≤ 60 by omega)
            clear h1 h2 h3
            go_wp2_with fail
            go_roundw
            case rel =>
              refine ⟨i + 1, by omega, by go_num, Lib.hid (fun m c' hm hc' => ?_), by first | trivial | rfl⟩
              rcases Nat.lt_or_ge m i with h | h
              · exact HS.out m c' h hc'
              · obtain rfl : m = i := by omega
                rw [HC.out] at hc'
                injection hc' with hc'
                subst hc'
                exact H123.out
            case measure => simp [intOf]; omega
          · have h3' : (60 : Int) < (c.old.length : Int) := by omega
            clear h1 h2 h3
            go_wp2_with fail
            refine (hA _).mono ?_
            rintro e w1 ⟨rfl, hb⟩
            go_wp2_with fail
            go_ret
            exact ⟨rfl, hb⟩
        · have h2' : (60 : Int) < (c.val.length : Int) := by omega
          clear h1 h2
          go_wp2_with fail
          refine (hA _).mono ?_
          rintro e w1 ⟨rfl, hb⟩
          go_wp2_with fail
          go_ret
          exact ⟨rfl, hb⟩
      · have h1' : (60 : Int) < (c.key.length : Int) := by omega
        clear h1
        go_wp2_with fail
        refine (hA _).mono ?_
        rintro e w1 ⟨rfl, hb⟩
        go_wp2_with fail
        go_ret
        exact ⟨rfl, hb⟩
    · have hlti : ¬ (i : Int) < (len1 : Int) := by omega
      have HFT : Hid (∀ (m : Nat) (c : Cm), z1[m]? = some c → c.key.length ≤ 60 ∧ c.val.length ≤ 60 ∧ c.old.length ≤ 60) := Lib.hid (fun m c hc => HS.out m c (by have h1 := (List.getElem?_eq_some_iff.1 hc).1; have h2 := HR.out.1; omega) hc)
      clear HS hlt hi
      rename World => w
      have HS0 : Hid (PlS w ((w.alloc (.cells #[.slice none 0 0, .slice none 0 0, .slice none 0 0, .slice none 0 0] 32)).alloc (.cells #[.slice none 0 0, .slice none 0 0, .slice none 0 0, .slice none 0 0] 32)) w.heap.size ⟨none, 0, none, 0, none, 0, none, 0⟩ ⟨none, 0, none, 0, none, 0, none, 0⟩ ⟨[], [], [], []⟩) := Lib.hid
        ⟨(Blk.new _ _ _).alloc _, by
          have := Blk.new (w.alloc (.cells #[.slice none 0 0, .slice none 0 0, .slice none 0 0, .slice none 0 0] 32)) 32 #[.slice none 0 0, .slice none 0 0, .slice none 0 0, .slice none 0 0]
          rwa [World.size_alloc] at this, ⟨own_nil _ _, OwnQ.nil _ _, ownI_nil _ _, OwnP.nil _ _⟩, ⟨own_nil _ _, OwnQ.nil _ _, ownI_nil _ _, OwnP.nil _ _⟩, Ob.Inv.nil, ((Below.refl _ _).alloc (Nat.le_refl _) _).alloc (by simp) _, Nat.le_refl _⟩
      go_wp2_with fail
      generalize w.heap.size = g at HS0 ⊢
      go_loopw [8] (fun s8 wr => ∃ (i : Nat) (a a' : OA) (s : Ob), i ≤ len0 ∧ s8 = .int .i64 (i : Int) ∧ Hid (PlS w wr g a a' s)) (fun s8 _ => len0 - (intOf s8).toNat)
      case atStart => exact ⟨0, _, _, _, Nat.zero_le _, rfl, HS0⟩
      case round =>
        clear HS0 hlti
        obtain ⟨i, a, a', s, hi, rfl, HS⟩ := hrel
        by_cases hlt : i < len0 ∧ i < 60
        · obtain ⟨hlt, h60⟩ := hlt
          have hk1 : (i : Int) < (len0 : Int) := by omega
          have hk2 : (i : Int) < 60 := by omega
          have hwi : IntKind.i64.wrap ((i : Int) + 1) = (i : Int) + 1 := IntWalk.i64_in _ (by omega)
          obtain ⟨z, hz⟩ : ∃ z, zs[i]? = some z := ⟨_, List.getElem?_eq_getElem (by have := HZL.out; omega)⟩
          have hzc := (HZ.out.below HS.out.bel).fit
          obtain ⟨b, o, rfl, _⟩ := hzc.int_at hlt
          have hc0 := hzc.int_cell hlt hz
          have hzlt : b < w.heap.size := by obtain ⟨b', o', e1, h1, _⟩ := HZ.out.2 (by omega); injection e1 with e1; injection e1 with e1; omega
          have HZC : Hid (∀ wx, Below w.heap.size w wx → wx.cell? ⟨b, o + i, none⟩ = some (.int .i64 z)) := Lib.hid (fun wx hb => (hb.cell (p := ⟨b, o + i, none⟩) hzlt).trans (HZ.out.int_cell hlt hz))
          clear hz hzc hzlt
          go_wp2_with fail
          refine (cmd_any _ _).mono ?_
          rintro e w1 ⟨ca, c, rfl, hF, hrc, hb1⟩
          have hb2 : Below wr.heap.size wr (w1.alloc (.cells (cmdC ca c) 24)) := hb1.alloc hb1.size _
          have HS2 : Hid (PlC w (w1.alloc (.cells (cmdC ca c) 24)) g w1.heap.size a a' s ca c) := Lib.hid ⟨HS.out.below hb2, Blk.new w1 24 (cmdC ca c), (hrc.below ((Below.refl _ _).alloc (Nat.le_refl _) (.cells (cmdC ca c) 24))).fit, hF, by have h1 := HS.out.b2.lt; have h2 := hb1.size; omega⟩
          clear hc0 hrc hb1 hb2 hF HS
          have hc0 := HZC.out _ HS2.out.st.bel
          unfold cmdV
          simp only [cmdC] at HS2 hc0 ⊢
          go_upto_region 12 with fail
          obtain ⟨k, hk⟩ : ∃ k, w1.heap.size = k := ⟨_, rfl⟩
          obtain ⟨w2, hw2⟩ : ∃ x, w1.alloc (.cells #[.int .i64 c.kind, .int .i64 c.who, .slice ca.Ak c.key.length ca.ck, .slice ca.Av c.val.length ca.cv, .slice ca.Ao c.old.length ca.co] 24) = x := ⟨_, rfl⟩
          rw [hw2, hk] at HS2
          rw [hw2] at hc0 ⊢
          rw [hk]
          clear hw2 hk
          go_cut [73] from 61 to 73 (fun s73 wx => ∃ bb : Bool, s73 = .bool bb ∧ (bb = true → i < len1) ∧ wx = w2)
          case first =>
            have e3 := and_3 (z / 268435456)
            by_cases hq : z / 268435456 % 4 = 0
            · have hq1 : (z / 268435456 % 4 == 0) = true := by simp [hq]
              by_cases h1 : (i : Int) < (len1 : Int)
              · go_wp2_with fail
                go_meet
                exact ⟨true, rfl, (fun _ => by omega), rfl⟩
              · go_wp2_with fail
                go_meet
                exact ⟨false, rfl, (fun h => by cases h), rfl⟩
            · have hq1 : (z / 268435456 % 4 == 0) = false := by simpa using hq
              go_wp2_with fail
              go_meet
              exact ⟨false, rfl, (fun h => by cases h), rfl⟩
          case rest =>
          obtain ⟨bb, rfl, hbb, rfl⟩ := hcut
          rename World => w2
          have hpc := HS2.out.bk
          simp only [cmdC] at hpc
          have m0 := hpc.frozen 0
          have m1 := hpc.frozen 1
          have m2 := hpc.frozen 2
          have m3 := hpc.frozen 3
          have m4 := hpc.frozen 4
          obtain ⟨y0, y1, y2, y3, y4⟩ := five hpc
          clear hpc hc0
          go_upto_if 73 with fail
          go_cut [] from 74 to 77 (fun wx => ∃ ca' c', Hid (PlC w wx g k a a' s ca' c'))
          case first =>
            cases bb with
            | true =>
              obtain ⟨b', o', ca', c', rfl, hc', q0, q1, q2, q3, q4, hrc', hby'⟩ := HR.out.at (hbb rfl)
              have q0 := (HS2.out.st.bel.cell (World.block_lt_of_cell? _ _ q0)).trans q0
              have q1 := (HS2.out.st.bel.cell (World.block_lt_of_cell? _ _ q1)).trans q1
              have q2 := (HS2.out.st.bel.cell (World.block_lt_of_cell? _ _ q2)).trans q2
              have q3 := (HS2.out.st.bel.cell (World.block_lt_of_cell? _ _ q3)).trans q3
              have q4 := (HS2.out.st.bel.cell (World.block_lt_of_cell? _ _ q4)).trans q4
              have h60' := HFT.out i c' hc'
              have hput := HS2.out.put (ca' := ca') (c' := c') hrc' ⟨⟨by omega, hby'.key⟩, ⟨by omega, hby'.val⟩, ⟨by omega, hby'.old⟩⟩ _ _ _ _ _ rfl
              have HPUT := Lib.hid hput
              have hbb1 := hbb rfl
              have hk3 : (i : Int) < (len1 : Int) := by omega
              clear hput hrc' hby' h60' hc'
              go_wp2_with fail
              go_meet
              exact ⟨_, _, HPUT⟩
            | false =>
              go_wp2_with fail
              go_meet
              exact ⟨_, _, HS2⟩
          case rest =>
          obtain ⟨ca2, c2, HS3⟩ := hcut
          rename World => w3
          clear HS2 m0 m1 m2 m3 m4 y0 y1 y2 y3 y4
          have hx := HS3.out.st.b1
          simp only [objC] at hx
          have hy := HS3.out.st.b2
          simp only [objC] at hy
          have hk := HS3.out.bk
          simp only [cmdC] at hk
          obtain ⟨x0, x1, x2, x3, _, _, _, _⟩ := four hx
          obtain ⟨v0, v1, v2, v3, _, _, _, _⟩ := four hy
          obtain ⟨y0, y1, y2, y3, y4⟩ := five hk
          clear hx hy hk
          have hI4 := Lib.hid (HS3.out.st.inv.apply HS3.out.fit)
          have hV4 := Lib.hid (Ob.apply_vb (c := c2) HS3.out.st.inv)
          have H1 := Lib.hid (hC (W := w) HS3.out.st.inv HS3.out.fit HS3.out.st.o1.rd HS3.out.rc HS3.out.st.bel)
          obtain ⟨r, hr⟩ : ∃ r, s.apply c2 = r := ⟨_, rfl⟩
          rw [hr] at hI4 hV4 H1
          have HR2 := Lib.hid hr
          unfold objV cmdV at H1
          simp only [objC, cmdC] at H1
          clear hr
          go_upto_region 15 with (first
            | (go_at_call 12; refine H1.out.mono ?_; rintro e w4 ⟨d, A4, c4, rfl, ho4, hv4, hB4, hb4⟩; unfold objV resV; simp only [objC])
            | fail)
          have hb5 : Below w4.heap.size w4 ((w4.alloc (.cells #[.slice d.A0 r.s.reg.length d.c0, .slice d.A1 r.s.q.length d.c1, .slice d.A2 r.s.lk.length d.c2, .slice d.A3 r.s.mp.length d.c3] 32)).alloc (.cells #[.int .i64 r.e, .slice A4 r.v.length c4, .int .i64 r.n] 34)) := ((Below.refl _ _).alloc (Nat.le_refl _) _).alloc (by simp) _
          have hbb := hb4.trans (hb5.mono hb4.size)
          have HM1 : Hid (PlA w ((w4.alloc (.cells #[.slice d.A0 r.s.reg.length d.c0, .slice d.A1 r.s.q.length d.c1, .slice d.A2 r.s.lk.length d.c2, .slice d.A3 r.s.mp.length d.c3] 32)).alloc (.cells #[.int .i64 r.e, .slice A4 r.v.length c4, .int .i64 r.n] 34)) g k w4.heap.size a a' s ca2 c2 d r A4 c4) := Lib.hid ⟨HS3.out.below hbb, (Blk.new _ _ _).alloc _, by
            have := Blk.new (w4.alloc (.cells #[.slice d.A0 r.s.reg.length d.c0, .slice d.A1 r.s.q.length d.c1, .slice d.A2 r.s.lk.length d.c2, .slice d.A3 r.s.mp.length d.c3] 32)) 34 #[.int .i64 r.e, .slice A4 r.v.length c4, .int .i64 r.n]
            rwa [World.size_alloc] at this, ho4.below hb5, own_below hv4 hb5, by have h1 := HS3.out.bk.lt; have h2 := HS3.out.gk; have h3 := hb4.size; omega⟩
          obtain ⟨h, hh⟩ : ∃ x, w4.heap.size = x := ⟨_, rfl⟩
          obtain ⟨w5, hw5⟩ : ∃ x, (w4.alloc (.cells #[.slice d.A0 r.s.reg.length d.c0, .slice d.A1 r.s.q.length d.c1, .slice d.A2 r.s.lk.length d.c2, .slice d.A3 r.s.mp.length d.c3] 32)).alloc (.cells #[.int .i64 r.e, .slice A4 r.v.length c4, .int .i64 r.n] 34) = x := ⟨_, rfl⟩
          rw [hw5, hh] at HM1
          rw [hw5, hh]
          clear hw5 hh hb4 hb5 hbb ho4 hv4 hB4 HS3 H1 x0 x1 x2 x3 v0 v1 v2 v3 y0 y1 y2 y3 y4
          have hx := HM1.out.st.st.b2
          simp only [objC] at hx
          have hk := HM1.out.st.bk
          simp only [cmdC] at hk
          obtain ⟨x0, x1, x2, x3, _, _, _, _⟩ := four hx
          obtain ⟨y0, y1, y2, y3, y4⟩ := five hk
          clear hx hk
          have H2 := Lib.hid (refApply_any (W := w) HM1.out.st.st.inv HM1.out.st.fit HM1.out.st.st.o2.rd HM1.out.st.rc HM1.out.st.st.bel)
          rw [HR2.out] at H2
          unfold objV cmdV at H2
          simp only [objC, cmdC] at H2
          go_upto_region 16 with (first
            | (go_at_call 16; refine H2.out.mono ?_; rintro e w6 ⟨d', A6, c6, rfl, ho6, hv6, hB6, hb6⟩; unfold objV resV; simp only [objC])
            | fail)
          have hb7 : Below w6.heap.size w6 ((w6.alloc (.cells #[.slice d'.A0 r.s.reg.length d'.c0, .slice d'.A1 r.s.q.length d'.c1, .slice d'.A2 r.s.lk.length d'.c2, .slice d'.A3 r.s.mp.length d'.c3] 32)).alloc (.cells #[.int .i64 r.e, .slice A6 r.v.length c6, .int .i64 r.n] 34)) := ((Below.refl _ _).alloc (Nat.le_refl _) _).alloc (by simp) _
          have hbb := hb6.trans (hb7.mono hb6.size)
          have HM2 : Hid (PlB w ((w6.alloc (.cells #[.slice d'.A0 r.s.reg.length d'.c0, .slice d'.A1 r.s.q.length d'.c1, .slice d'.A2 r.s.lk.length d'.c2, .slice d'.A3 r.s.mp.length d'.c3] 32)).alloc (.cells #[.int .i64 r.e, .slice A6 r.v.length c6, .int .i64 r.n] 34)) g k h w6.heap.size a a' s ca2 c2 d d' r A4 c4 A6 c6) := Lib.hid ⟨HM1.out.below hbb, (Blk.new _ _ _).alloc _, by
            have := Blk.new (w6.alloc (.cells #[.slice d'.A0 r.s.reg.length d'.c0, .slice d'.A1 r.s.q.length d'.c1, .slice d'.A2 r.s.lk.length d'.c2, .slice d'.A3 r.s.mp.length d'.c3] 32)) 34 #[.int .i64 r.e, .slice A6 r.v.length c6, .int .i64 r.n]
            rwa [World.size_alloc] at this, ho6.below hb7, own_below hv6 hb7, by have h1 := HM1.out.bh1.lt; have h2 := hb6.size; omega, hI4.out, hV4.out⟩
          obtain ⟨j, hj⟩ : ∃ x, w6.heap.size = x := ⟨_, rfl⟩
          obtain ⟨w7, hw7⟩ : ∃ x, (w6.alloc (.cells #[.slice d'.A0 r.s.reg.length d'.c0, .slice d'.A1 r.s.q.length d'.c1, .slice d'.A2 r.s.lk.length d'.c2, .slice d'.A3 r.s.mp.length d'.c3] 32)).alloc (.cells #[.int .i64 r.e, .slice A6 r.v.length c6, .int .i64 r.n] 34) = x := ⟨_, rfl⟩
          rw [hw7, hj] at HM2
          rw [hw7, hj]
          clear hw7 hj hb6 hb7 hbb ho6 hv6 hB6 HM1 H2 x0 x1 x2 x3 y0 y1 y2 y3 y4 hI4 hV4
          obtain ⟨p3, hp3⟩ : ∃ x, s.same r.s = x := ⟨_, rfl⟩
          obtain ⟨p5, hp5⟩ : ∃ x, c2.ok = x := ⟨_, rfl⟩
          go_cut [124] from 90 to 124 (fun s124 wx => s124 = .bool false ∧ Hid (PlB w wx g k h j a a' s ca2 c2 d d' r A4 c4 A6 c6))
          case first =>
            have F1 : Hid (∀ wx, Below w7.heap.size w7 wx → Calls Try.prog 18 #[.agg #[.int .i64 r.e, .slice A4 r.v.length c4, .int .i64 r.n], .agg #[.int .i64 r.e, .slice A6 r.v.length c6, .int .i64 r.n]] wx fun e w' => e = .returned (.bool true) ∧ Below wx.heap.size wx w') := Lib.hid (fun wx hb => same_is wx r.e r.n HM2.out.vb ((Rd.own_ HM2.out.st.ov).below hb) ((Rd.own_ HM2.out.ov').below hb))
            have F2 : Hid (∀ wx, Below w7.heap.size w7 wx → Calls Try.prog 17 #[.agg #[.slice d.A0 r.s.reg.length d.c0, .slice d.A1 r.s.q.length d.c1, .slice d.A2 r.s.lk.length d.c2, .slice d.A3 r.s.mp.length d.c3], .agg #[.slice d'.A0 r.s.reg.length d'.c0, .slice d'.A1 r.s.q.length d'.c1, .slice d'.A2 r.s.lk.length d'.c2, .slice d'.A3 r.s.mp.length d'.c3]] wx fun e w' => e = .returned (.bool true) ∧ Below wx.heap.size wx w') := Lib.hid (fun wx hb => by
              have := sameO_any wx HM2.out.iv HM2.out.iv (HM2.out.st.oh.rd.below hb) (HM2.out.oj.rd.below hb)
              rwa [Ob.same_self] at this)
            have F3 : Hid (∀ wx, Below w7.heap.size w7 wx → Calls Try.prog 19 #[.agg #[.slice a.A0 s.reg.length a.c0, .slice a.A1 s.q.length a.c1, .slice a.A2 s.lk.length a.c2, .slice a.A3 s.mp.length a.c3], .agg #[.slice d.A0 r.s.reg.length d.c0, .slice d.A1 r.s.q.length d.c1, .slice d.A2 r.s.lk.length d.c2, .slice d.A3 r.s.mp.length d.c3]] wx fun e w' => e = .returned (.bool p3) ∧ Below wx.heap.size wx w') := Lib.hid (fun wx hb => by
              have := hS wx HM2.out.st.st.st.inv HM2.out.iv (HM2.out.st.st.st.o1.rd.below hb) (HM2.out.st.oh.rd.below hb)
              rwa [hp3] at this)
            have F4 : Hid (∀ wx, Below w7.heap.size w7 wx → Calls Try.prog 17 #[.agg #[.slice a'.A0 s.reg.length a'.c0, .slice a'.A1 s.q.length a'.c1, .slice a'.A2 s.lk.length a'.c2, .slice a'.A3 s.mp.length a'.c3], .agg #[.slice d'.A0 r.s.reg.length d'.c0, .slice d'.A1 r.s.q.length d'.c1, .slice d'.A2 r.s.lk.length d'.c2, .slice d'.A3 r.s.mp.length d'.c3]] wx fun e w' => e = .returned (.bool p3) ∧ Below wx.heap.size wx w') := Lib.hid (fun wx hb => by
              have := sameO_any wx HM2.out.st.st.st.inv HM2.out.iv (HM2.out.st.st.st.o2.rd.below hb) (HM2.out.oj.rd.below hb)
              rwa [hp3] at this)
            have F5 : Hid (∀ wx, Calls Try.prog 13 #[.agg #[.int .i64 c2.kind, .int .i64 c2.who, .slice ca2.Ak c2.key.length ca2.ck, .slice ca2.Av c2.val.length ca2.cv, .slice ca2.Ao c2.old.length ca2.co]] wx fun e w' => e = .returned (.bool p5) ∧ Below wx.heap.size wx w') := Lib.hid (fun wx => by
              have := hO wx ca2 c2
              rwa [hp5] at this)
            have F6 : Hid (∀ wx, Calls Try.prog 20 #[.agg #[.int .i64 c2.kind, .int .i64 c2.who, .slice ca2.Ak c2.key.length ca2.ck, .slice ca2.Av c2.val.length ca2.cv, .slice ca2.Ao c2.old.length ca2.co]] wx fun e w' => e = .returned (.bool p5) ∧ Below wx.heap.size wx w') := Lib.hid (fun wx => by
              have := refOk_any wx ca2 c2
              rwa [hp5] at this)
            have F7 : Hid (∀ wx, Below w7.heap.size w7 wx → Calls Try.prog 21 #[.agg #[.int .i64 r.e, .slice A4 r.v.length c4, .int .i64 r.n], .agg #[.int .i64 r.e, .slice A6 r.v.length c6, .int .i64 r.n]] wx fun e w' => e = .returned (.bool true) ∧ Below wx.heap.size wx w') := Lib.hid (fun wx hb => by
              have := hR wx (c := c4) (c' := c6) r.e r.e r.n r.n HM2.out.vb HM2.out.vb ((Rd.own_ HM2.out.st.ov).below hb) ((Rd.own_ HM2.out.ov').below hb)
              rw [decide_eq_true rfl, decide_eq_true rfl, decide_eq_true rfl] at this
              exact this)
            have L1 : Hid (∀ wx, Below w7.heap.size w7 wx → Blk wx (h + 1) 34 #[.int .i64 r.e, .slice A4 r.v.length c4, .int .i64 r.n]) := Lib.hid (fun wx hb => HM2.out.st.bh1.below hb)
            have L2 : Hid (∀ wx, Below w7.heap.size w7 wx → Blk wx (j + 1) 34 #[.int .i64 r.e, .slice A6 r.v.length c6, .int .i64 r.n]) := Lib.hid (fun wx hb => HM2.out.bj1.below hb)
            have L3 : Hid (∀ wx, Below w7.heap.size w7 wx → Blk wx h 32 (objC d r.s)) := Lib.hid (fun wx hb => HM2.out.st.bh.below hb)
            have L4 : Hid (∀ wx, Below w7.heap.size w7 wx → Blk wx j 32 (objC d' r.s)) := Lib.hid (fun wx hb => HM2.out.bj.below hb)
            have L5 : Hid (∀ wx, Below w7.heap.size w7 wx → Blk wx g 32 (objC a s)) := Lib.hid (fun wx hb => HM2.out.st.st.st.b1.below hb)
            have L6 : Hid (∀ wx, Below w7.heap.size w7 wx → Blk wx (g + 1) 32 (objC a' s)) := Lib.hid (fun wx hb => HM2.out.st.st.st.b2.below hb)
            have L7 : Hid (∀ wx, Below w7.heap.size w7 wx → Blk wx k 24 (cmdC ca2 c2)) := Lib.hid (fun wx hb => HM2.out.st.st.bk.below hb)
            simp only [objC, cmdC] at L3 L4 L5 L6 L7
            refine wp_region_held_drew (S := fun w' => Below w7.heap.size w7 w') (by kernel_rfl) (Below.refl _ _).drew (fun _ => ?_)
            have hS0 : Below w7.heap.size w7 w7.drew := (Below.refl _ _).drew
            generalize w7.drew = w8 at hS0 ⊢
            have hS := Lib.hid hS0
            clear hS0 hp3 hp5
            refine wpAnyH_take (i := 0) (v := .agg #[.int .i64 r.e, .slice A4 r.v.length c4, .int .i64 r.n]) rfl (by kernel_rfl) (by kernel_rfl) (by kernel_rfl) (fun _ _ _ h => h) (Or.inl ⟨by kernel_rfl, fun w h => by obtain ⟨q0, q1, q2, _, _, _⟩ := three (L1.out _ h); go_simp⟩) hS.out ?_
            refine wpAnyH_take (i := 1) (v := .agg #[.int .i64 r.e, .slice A6 r.v.length c6, .int .i64 r.n]) rfl (by kernel_rfl) (by kernel_rfl) (by kernel_rfl) (fun _ _ _ h => h) (Or.inl ⟨by kernel_rfl, fun w h => by obtain ⟨q0, q1, q2, _, _, _⟩ := three (L2.out _ h); go_simp⟩) hS.out ?_
            refine wpAnyH_ready (rs := [2]) (by kernel_rfl) (by simp) ?_
            refine AllReadyH.cons rfl (fun K hK => ?_) AllReadyH.nil
            go_simp
            refine (F1.out _ hS.out).mono ?_
            rintro en w9 ⟨rfl, hb9⟩
            have hS := Lib.hid (hS.out.trans (hb9.mono hS.out.size))
            go_simp
            refine hK.out _ _ hS.out (fun _ => ?_)
            clear hK K
            refine wpAnyH_take (i := 3) (v := .bool false) rfl (by kernel_rfl) (by kernel_rfl) (by kernel_rfl) (fun _ _ _ h => h) (Or.inl ⟨by kernel_rfl, fun w _ => by go_simp⟩) hS.out ?_
            refine wpAnyH_take (i := 4) (v := .bool false) rfl (by kernel_rfl) (by kernel_rfl) (by kernel_rfl) (fun _ _ _ h => h) (Or.inl ⟨by kernel_rfl, fun w _ => by go_simp⟩) hS.out ?_
            refine wpAnyH_take (i := 5) (v := .agg #[.slice d.A0 r.s.reg.length d.c0, .slice d.A1 r.s.q.length d.c1, .slice d.A2 r.s.lk.length d.c2, .slice d.A3 r.s.mp.length d.c3]) rfl (by kernel_rfl) (by kernel_rfl) (by kernel_rfl) (fun _ _ _ h => h) (Or.inl ⟨by kernel_rfl, fun w h => by obtain ⟨q0, q1, q2, q3, _, _, _, _⟩ := four (L3.out _ h); go_simp⟩) hS.out ?_
            refine wpAnyH_take (i := 6) (v := .agg #[.slice d'.A0 r.s.reg.length d'.c0, .slice d'.A1 r.s.q.length d'.c1, .slice d'.A2 r.s.lk.length d'.c2, .slice d'.A3 r.s.mp.length d'.c3]) rfl (by kernel_rfl) (by kernel_rfl) (by kernel_rfl) (fun _ _ _ h => h) (Or.inl ⟨by kernel_rfl, fun w h => by obtain ⟨q0, q1, q2, q3, _, _, _, _⟩ := four (L4.out _ h); go_simp⟩) hS.out ?_
            refine wpAnyH_ready (rs := [7]) (by kernel_rfl) (by simp) ?_
            refine AllReadyH.cons rfl (fun K hK => ?_) AllReadyH.nil
            go_simp
            refine (F2.out _ hS.out).mono ?_
            rintro en w10 ⟨rfl, hb10⟩
            have hS := Lib.hid (hS.out.trans (hb10.mono hS.out.size))
            go_simp
            refine hK.out _ _ hS.out (fun _ => ?_)
            clear hK K
            refine wpAnyH_take (i := 8) (v := .bool false) rfl (by kernel_rfl) (by kernel_rfl) (by kernel_rfl) (fun _ _ _ h => h) (Or.inl ⟨by kernel_rfl, fun w _ => by go_simp⟩) hS.out ?_
            refine wpAnyH_take (i := 9) (v := .bool false) rfl (by kernel_rfl) (by kernel_rfl) (by kernel_rfl) (fun _ _ _ h => h) (Or.inl ⟨by kernel_rfl, fun w _ => by go_simp⟩) hS.out ?_
            refine wpAnyH_take (i := 10) (v := .bool false) rfl (by kernel_rfl) (by kernel_rfl) (by kernel_rfl) (fun _ _ _ h => h) (Or.inl ⟨by kernel_rfl, fun w _ => by go_simp⟩) hS.out ?_
            refine wpAnyH_take (i := 11) (v := .agg #[.slice a.A0 s.reg.length a.c0, .slice a.A1 s.q.length a.c1, .slice a.A2 s.lk.length a.c2, .slice a.A3 s.mp.length a.c3]) rfl (by kernel_rfl) (by kernel_rfl) (by kernel_rfl) (fun _ _ _ h => h) (Or.inl ⟨by kernel_rfl, fun w h => by obtain ⟨q0, q1, q2, q3, _, _, _, _⟩ := four (L5.out _ h); go_simp⟩) hS.out ?_
            refine wpAnyH_take (i := 12) (v := .agg #[.slice d.A0 r.s.reg.length d.c0, .slice d.A1 r.s.q.length d.c1, .slice d.A2 r.s.lk.length d.c2, .slice d.A3 r.s.mp.length d.c3]) rfl (by kernel_rfl) (by kernel_rfl) (by kernel_rfl) (fun _ _ _ h => h) (Or.inl ⟨by kernel_rfl, fun w h => by obtain ⟨q0, q1, q2, q3, _, _, _, _⟩ := four (L3.out _ h); go_simp⟩) hS.out ?_
            refine wpAnyH_take (i := 14) (v := .agg #[.slice a'.A0 s.reg.length a'.c0, .slice a'.A1 s.q.length a'.c1, .slice a'.A2 s.lk.length a'.c2, .slice a'.A3 s.mp.length a'.c3]) rfl (by kernel_rfl) (by kernel_rfl) (by kernel_rfl) (fun _ _ _ h => h) (Or.inl ⟨by kernel_rfl, fun w h => by obtain ⟨q0, q1, q2, q3, _, _, _, _⟩ := four (L6.out _ h); go_simp⟩) hS.out ?_
            refine wpAnyH_take (i := 15) (v := .agg #[.slice d'.A0 r.s.reg.length d'.c0, .slice d'.A1 r.s.q.length d'.c1, .slice d'.A2 r.s.lk.length d'.c2, .slice d'.A3 r.s.mp.length d'.c3]) rfl (by kernel_rfl) (by kernel_rfl) (by kernel_rfl) (fun _ _ _ h => h) (Or.inl ⟨by kernel_rfl, fun w h => by obtain ⟨q0, q1, q2, q3, _, _, _, _⟩ := four (L4.out _ h); go_simp⟩) hS.out ?_
            refine wpAnyH_ready (rs := [13]) (by kernel_rfl) (by simp) ?_
            refine AllReadyH.cons rfl (fun K hK => ?_) AllReadyH.nil
            go_simp
            refine (F3.out _ hS.out).mono ?_
            rintro en w11 ⟨rfl, hb11⟩
            have hS := Lib.hid (hS.out.trans (hb11.mono hS.out.size))
            go_simp
            refine hK.out _ _ hS.out (fun _ => ?_)
            clear hK K
            refine wpAnyH_ready (rs := [16]) (by kernel_rfl) (by simp) ?_
            refine AllReadyH.cons rfl (fun K hK => ?_) AllReadyH.nil
            go_simp
            refine (F4.out _ hS.out).mono ?_
            rintro en w12 ⟨rfl, hb12⟩
            have hS := Lib.hid (hS.out.trans (hb12.mono hS.out.size))
            go_simp
            refine hK.out _ _ hS.out (fun _ => ?_)
            clear hK K
            refine wpAnyH_take (i := 17) (v := .bool false) rfl (by kernel_rfl) (by kernel_rfl) (by kernel_rfl) (fun _ _ _ h => h) (Or.inl ⟨by kernel_rfl, fun w _ => by go_simp⟩) hS.out ?_
            refine wpAnyH_take (i := 18) (v := .bool false) rfl (by kernel_rfl) (by kernel_rfl) (by kernel_rfl) (fun _ _ _ h => h) (Or.inl ⟨by kernel_rfl, fun w _ => by go_simp⟩) hS.out ?_
            refine wpAnyH_take (i := 19) (v := .bool false) rfl (by kernel_rfl) (by kernel_rfl) (by kernel_rfl) (fun _ _ _ h => h) (Or.inl ⟨by kernel_rfl, fun w _ => by go_simp⟩) hS.out ?_
            refine wpAnyH_take (i := 20) (v := .agg #[.int .i64 c2.kind, .int .i64 c2.who, .slice ca2.Ak c2.key.length ca2.ck, .slice ca2.Av c2.val.length ca2.cv, .slice ca2.Ao c2.old.length ca2.co]) rfl (by kernel_rfl) (by kernel_rfl) (by kernel_rfl) (fun _ _ _ h => h) (Or.inl ⟨by kernel_rfl, fun w h => by obtain ⟨q0, q1, q2, q3, q4⟩ := five (L7.out _ h); go_simp⟩) hS.out ?_
            refine wpAnyH_take (i := 22) (v := .agg #[.int .i64 c2.kind, .int .i64 c2.who, .slice ca2.Ak c2.key.length ca2.ck, .slice ca2.Av c2.val.length ca2.cv, .slice ca2.Ao c2.old.length ca2.co]) rfl (by kernel_rfl) (by kernel_rfl) (by kernel_rfl) (fun _ _ _ h => h) (Or.inl ⟨by kernel_rfl, fun w h => by obtain ⟨q0, q1, q2, q3, q4⟩ := five (L7.out _ h); go_simp⟩) hS.out ?_
            refine wpAnyH_ready (rs := [21]) (by kernel_rfl) (by simp) ?_
            refine AllReadyH.cons rfl (fun K hK => ?_) AllReadyH.nil
            go_simp
            refine (F5.out _).mono ?_
            rintro en w13 ⟨rfl, hb13⟩
            have hS := Lib.hid (hS.out.trans (hb13.mono hS.out.size))
            go_simp
            refine hK.out _ _ hS.out (fun _ => ?_)
            clear hK K
            refine wpAnyH_ready (rs := [23]) (by kernel_rfl) (by simp) ?_
            refine AllReadyH.cons rfl (fun K hK => ?_) AllReadyH.nil
            go_simp
            refine (F6.out _).mono ?_
            rintro en w14 ⟨rfl, hb14⟩
            have hS := Lib.hid (hS.out.trans (hb14.mono hS.out.size))
            go_simp
            refine hK.out _ _ hS.out (fun _ => ?_)
            clear hK K
            refine wpAnyH_take (i := 24) (v := .bool false) rfl (by kernel_rfl) (by kernel_rfl) (by kernel_rfl) (fun _ _ _ h => h) (Or.inl ⟨by kernel_rfl, fun w _ => by go_simp⟩) hS.out ?_
            refine wpAnyH_take (i := 25) (v := .bool false) rfl (by kernel_rfl) (by kernel_rfl) (by kernel_rfl) (fun _ _ _ h => h) (Or.inl ⟨by kernel_rfl, fun w _ => by go_simp⟩) hS.out ?_
            refine wpAnyH_take (i := 26) (v := .bool false) rfl (by kernel_rfl) (by kernel_rfl) (by kernel_rfl) (fun _ _ _ h => h) (Or.inl ⟨by kernel_rfl, fun w _ => by go_simp⟩) hS.out ?_
            refine wpAnyH_take (i := 27) (v := .agg #[.int .i64 r.e, .slice A4 r.v.length c4, .int .i64 r.n]) rfl (by kernel_rfl) (by kernel_rfl) (by kernel_rfl) (fun _ _ _ h => h) (Or.inl ⟨by kernel_rfl, fun w h => by obtain ⟨q0, q1, q2, _, _, _⟩ := three (L1.out _ h); go_simp⟩) hS.out ?_
            refine wpAnyH_take (i := 28) (v := .agg #[.int .i64 r.e, .slice A6 r.v.length c6, .int .i64 r.n]) rfl (by kernel_rfl) (by kernel_rfl) (by kernel_rfl) (fun _ _ _ h => h) (Or.inl ⟨by kernel_rfl, fun w h => by obtain ⟨q0, q1, q2, _, _, _⟩ := three (L2.out _ h); go_simp⟩) hS.out ?_
            refine wpAnyH_take (i := 30) (v := .agg #[.int .i64 r.e, .slice A4 r.v.length c4, .int .i64 r.n]) rfl (by kernel_rfl) (by kernel_rfl) (by kernel_rfl) (fun _ _ _ h => h) (Or.inl ⟨by kernel_rfl, fun w h => by obtain ⟨q0, q1, q2, _, _, _⟩ := three (L1.out _ h); go_simp⟩) hS.out ?_
            refine wpAnyH_take (i := 31) (v := .agg #[.int .i64 r.e, .slice A6 r.v.length c6, .int .i64 r.n]) rfl (by kernel_rfl) (by kernel_rfl) (by kernel_rfl) (fun _ _ _ h => h) (Or.inl ⟨by kernel_rfl, fun w h => by obtain ⟨q0, q1, q2, _, _, _⟩ := three (L2.out _ h); go_simp⟩) hS.out ?_
            refine wpAnyH_ready (rs := [29]) (by kernel_rfl) (by simp) ?_
            refine AllReadyH.cons rfl (fun K hK => ?_) AllReadyH.nil
            go_simp
            refine (F7.out _ hS.out).mono ?_
            rintro en w15 ⟨rfl, hb15⟩
            have hS := Lib.hid (hS.out.trans (hb15.mono hS.out.size))
            go_simp
            refine hK.out _ _ hS.out (fun _ => ?_)
            clear hK K
            refine wpAnyH_ready (rs := [32]) (by kernel_rfl) (by simp) ?_
            refine AllReadyH.cons rfl (fun K hK => ?_) AllReadyH.nil
            go_simp
            refine (F1.out _ hS.out).mono ?_
            rintro en w16 ⟨rfl, hb16⟩
            have hS := Lib.hid (hS.out.trans (hb16.mono hS.out.size))
            go_simp
            refine hK.out _ _ hS.out (fun _ => ?_)
            clear hK K
            refine wpAnyH_take (i := 33) (v := .bool false) rfl (by kernel_rfl) (by kernel_rfl) (by kernel_rfl) (fun _ _ _ h => h) (Or.inl ⟨by kernel_rfl, fun w _ => by go_simp⟩) hS.out ?_
            refine wpAnyH_take (i := 34) (v := .bool false) rfl (by kernel_rfl) (by kernel_rfl) (by kernel_rfl) (fun _ _ _ h => h) (Or.inl ⟨by kernel_rfl, fun w _ => by go_simp⟩) hS.out ?_
            refine wpAnyH_done (by kernel_rfl) ?_ _
            go_wp2_with fail
            go_meet
            exact ⟨rfl, Lib.hid (HM2.out.below hS.out)⟩
          case rest =>
          obtain ⟨rfl, HM3⟩ := hcut
          rename World => w9
          clear HM2 hp3 hp5
          have l1 := HM3.out.st.gh
          have l2 := HM3.out.hj
          have hx := HM3.out.st.bh
          have hy := HM3.out.bj
          simp only [objC] at hx hy
          have HS9 := Lib.hid (And.intro hx.drew hy.drew)
          have HX := Lib.hid (HM3.out.below (Below.refl w9.heap.size w9).drew)
          have HL := Lib.hid (And.intro l1 l2)
          clear hx hy HM3 l1 l2
          go_upto_region 18 with fail
          refine wp_region_held_drew (S := fun w' => Blk w' h 32 #[.slice d.A0 r.s.reg.length d.c0, .slice d.A1 r.s.q.length d.c1, .slice d.A2 r.s.lk.length d.c2, .slice d.A3 r.s.mp.length d.c3] ∧ Blk w' j 32 #[.slice d'.A0 r.s.reg.length d'.c0, .slice d'.A1 r.s.q.length d'.c1, .slice d'.A2 r.s.lk.length d'.c2, .slice d'.A3 r.s.mp.length d'.c3]) (by kernel_rfl) HS9.out (fun _ => ?_)
          generalize w9.drew = w10 at HS9 HX ⊢
          have hx := HX.out.st.st.st.b1
          simp only [objC] at hx
          obtain ⟨x0, x1, x2, x3, f0, f1, f2, f3⟩ := four hx
          clear hx
          refine wpAnyH_take (i := 0) (v := .agg #[.slice d.A0 r.s.reg.length d.c0, .slice d.A1 r.s.q.length d.c1, .slice d.A2 r.s.lk.length d.c2, .slice d.A3 r.s.mp.length d.c3]) rfl (by kernel_rfl) (by kernel_rfl) (by kernel_rfl) (fun _ _ _ h => h) (Or.inl ⟨by kernel_rfl, fun w h => by obtain ⟨p0, p1, p2, p3, _, _, _, _⟩ := four h.1; go_simp⟩) HS9.out ?_
          refine wpAnyH_take (i := 1) (v := .agg #[.slice d'.A0 r.s.reg.length d'.c0, .slice d'.A1 r.s.q.length d'.c1, .slice d'.A2 r.s.lk.length d'.c2, .slice d'.A3 r.s.mp.length d'.c3]) rfl (by kernel_rfl) (by kernel_rfl) (by kernel_rfl) (fun _ _ _ h => h) (Or.inl ⟨by kernel_rfl, fun w h => by obtain ⟨p0, p1, p2, p3, _, _, _, _⟩ := four h.2; go_simp⟩) HS9.out ?_
          have HS2 := Lib.hid (show Blk ((((w10.setCell ⟨g, 0, none⟩ (.slice d.A0 r.s.reg.length d.c0)).setCell ⟨g, 1, none⟩ (.slice d.A1 r.s.q.length d.c1)).setCell ⟨g, 2, none⟩ (.slice d.A2 r.s.lk.length d.c2)).setCell ⟨g, 3, none⟩ (.slice d.A3 r.s.mp.length d.c3)) h 32 #[.slice d.A0 r.s.reg.length d.c0, .slice d.A1 r.s.q.length d.c1, .slice d.A2 r.s.lk.length d.c2, .slice d.A3 r.s.mp.length d.c3] ∧ Blk ((((w10.setCell ⟨g, 0, none⟩ (.slice d.A0 r.s.reg.length d.c0)).setCell ⟨g, 1, none⟩ (.slice d.A1 r.s.q.length d.c1)).setCell ⟨g, 2, none⟩ (.slice d.A2 r.s.lk.length d.c2)).setCell ⟨g, 3, none⟩ (.slice d.A3 r.s.mp.length d.c3)) j 32 #[.slice d'.A0 r.s.reg.length d'.c0, .slice d'.A1 r.s.q.length d'.c1, .slice d'.A2 r.s.lk.length d'.c2, .slice d'.A3 r.s.mp.length d'.c3] from by
            have h1 := HL.out
            exact ⟨(((HS9.out.1.set_other (by omega)).set_other (by omega)).set_other (by omega)).set_other (by omega), (((HS9.out.2.set_other (by omega)).set_other (by omega)).set_other (by omega)).set_other (by omega)⟩)
          refine wpAnyH_ready (rs := [2]) (by kernel_rfl) (by simp) ?_
          refine AllReadyH.cons rfl (fun K hK => ?_) AllReadyH.nil
          go_simp
          refine hK.out _ _ HS2.out (fun _ => ?_)
          clear hK K x0 x1 x2 x3 f0 f1 f2 f3
          have hy := HX.out.st.st.st.b2
          simp only [objC] at hy
          obtain ⟨v0, v1, v2, v3, e0, e1, e2, e3⟩ := four ((((hy.set_other (i := 0) (u := .slice d.A0 r.s.reg.length d.c0) (b := g) (by omega)).set_other (i := 1) (u := .slice d.A1 r.s.q.length d.c1) (b := g) (by omega)).set_other (i := 2) (u := .slice d.A2 r.s.lk.length d.c2) (b := g) (by omega)).set_other (i := 3) (u := .slice d.A3 r.s.mp.length d.c3) (b := g) (by omega))
          clear hy
          have HN := Lib.hid (HX.out.st.st.st.next (h := 0) (j := 0) HX.out.st.oh HX.out.oj HX.out.iv (.slice d.A0 r.s.reg.length d.c0) (.slice d.A1 r.s.q.length d.c1) (.slice d.A2 r.s.lk.length d.c2) (.slice d.A3 r.s.mp.length d.c3) (.slice d'.A0 r.s.reg.length d'.c0) (.slice d'.A1 r.s.q.length d'.c1) (.slice d'.A2 r.s.lk.length d'.c2) (.slice d'.A3 r.s.mp.length d'.c3) rfl rfl)
          have HS3 := Lib.hid (show Blk ((((((((w10.setCell ⟨g, 0, none⟩ (.slice d.A0 r.s.reg.length d.c0)).setCell ⟨g, 1, none⟩ (.slice d.A1 r.s.q.length d.c1)).setCell ⟨g, 2, none⟩ (.slice d.A2 r.s.lk.length d.c2)).setCell ⟨g, 3, none⟩ (.slice d.A3 r.s.mp.length d.c3)).setCell ⟨g + 1, 0, none⟩ (.slice d'.A0 r.s.reg.length d'.c0)).setCell ⟨g + 1, 1, none⟩ (.slice d'.A1 r.s.q.length d'.c1)).setCell ⟨g + 1, 2, none⟩ (.slice d'.A2 r.s.lk.length d'.c2)).setCell ⟨g + 1, 3, none⟩ (.slice d'.A3 r.s.mp.length d'.c3)) h 32 #[.slice d.A0 r.s.reg.length d.c0, .slice d.A1 r.s.q.length d.c1, .slice d.A2 r.s.lk.length d.c2, .slice d.A3 r.s.mp.length d.c3] ∧ Blk ((((((((w10.setCell ⟨g, 0, none⟩ (.slice d.A0 r.s.reg.length d.c0)).setCell ⟨g, 1, none⟩ (.slice d.A1 r.s.q.length d.c1)).setCell ⟨g, 2, none⟩ (.slice d.A2 r.s.lk.length d.c2)).setCell ⟨g, 3, none⟩ (.slice d.A3 r.s.mp.length d.c3)).setCell ⟨g + 1, 0, none⟩ (.slice d'.A0 r.s.reg.length d'.c0)).setCell ⟨g + 1, 1, none⟩ (.slice d'.A1 r.s.q.length d'.c1)).setCell ⟨g + 1, 2, none⟩ (.slice d'.A2 r.s.lk.length d'.c2)).setCell ⟨g + 1, 3, none⟩ (.slice d'.A3 r.s.mp.length d'.c3)) j 32 #[.slice d'.A0 r.s.reg.length d'.c0, .slice d'.A1 r.s.q.length d'.c1, .slice d'.A2 r.s.lk.length d'.c2, .slice d'.A3 r.s.mp.length d'.c3] from by
            have h1 := HL.out
            exact ⟨(((HS2.out.1.set_other (by omega)).set_other (by omega)).set_other (by omega)).set_other (by omega), (((HS2.out.2.set_other (by omega)).set_other (by omega)).set_other (by omega)).set_other (by omega)⟩)
          refine wpAnyH_ready (rs := [3]) (by kernel_rfl) (by simp) ?_
          refine AllReadyH.cons rfl (fun K hK => ?_) AllReadyH.nil
          go_simp
          refine hK.out _ _ HS3.out (fun _ => ?_)
          clear hK K v0 v1 v2 v3 e0 e1 e2 e3
          refine wpAnyH_done (by kernel_rfl) ?_ _
          go_wp2_with fail
          go_roundw
          case rel => exact ⟨i + 1, d, d', r.s, by omega, by go_num, HN⟩
          case measure => simp [intOf]; omega
        · by_cases h1 : i < len0
          · have h2 : ¬ (i : Int) < 60 := by omega
            have h3 : (i : Int) < (len0 : Int) := by omega
            go_wp2_with fail
            refine (hA _).mono ?_
            rintro e w1 ⟨rfl, hb⟩
            go_wp2_with fail
            go_ret
            exact ⟨rfl, HS.out.bel.trans (hb.mono HS.out.bel.size)⟩
          · have h3 : ¬ (i : Int) < (len0 : Int) := by omega
            go_wp2_with fail
            refine (hA _).mono ?_
            rintro e w1 ⟨rfl, hb⟩
            go_wp2_with fail
            go_ret
            exact ⟨rfl, HS.out.bel.trans (hb.mono HS.out.bel.size)⟩
end Go.Proofs.Ytcmjpjhaaookfaa
