/- A window is made, and things are put into it, for one type of things. -/
import Derived.Test.YteafbljdlcbckaaWindTS
import Derived.RegionTactic
import Derived.Deep.RegionHeld3
import Derived.Deep.DrawnRows
import Derived.Deep.DeepCutAuto
import Derived.Deep.CutBlock
namespace Go.Proofs.Yteafbljdlcbckaa.WS
open Go.RowKit
set_option linter.unusedVariables false
/-- is this a block of a window, or of its slots? -/
def isWin : Obj → Bool
  | .cells _ t _ => t == 71 || t == 73
  | _ => false
/-- no block has turned but those of windows, from base on -/
structure Turns (base : Nat) (w w' : World) : Prop where
  os : w'.os = w.os
  tape : w'.tape = w.tape
  output : w'.output = w.output
  size : w.heap.size ≤ w'.heap.size
  block : ∀ k o, w.heap[k]? = some o → (k < base ∨ isWin o = false) → w'.heap[k]? = some o
section
variable {base : Nat} {w w' w'' : World}
theorem Turns.refl (base : Nat) (w : World) : Turns base w w := ⟨rfl, rfl, rfl, Nat.le_refl _, fun _ _ h _ => h⟩
theorem Turns.trans (h : Turns base w w') (k : Turns base w' w'') : Turns base w w'' :=
  ⟨k.os.trans h.os, k.tape.trans h.tape, k.output.trans h.output, Nat.le_trans h.size k.size, fun i o ho hi => k.block i o (h.block i o ho hi) hi⟩
theorem Turns.of_below (h : Below w.heap.size w w') : Turns base w w' :=
  ⟨h.os, h.tape, h.output, h.size, fun k o ho _ => (h.block k (Array.getElem?_eq_some_iff.1 ho).1).trans ho⟩
theorem Turns.of_grown {g : Nat} {t : TypeId} {cs : Array Value} (h : w.grownBy w' (some g)) (hb : Blk w g t cs) (ht : t = 71 ∨ t = 73) (hg : base ≤ g) : Turns base w w' :=
  ⟨h.os, h.tape, h.output, h.size, fun k o ho hk => by
    refine (h.block k (Array.getElem?_eq_some_iff.1 ho).1 ?_).trans ho
    intro e
    injection e with e
    subst e
    rcases hk with hk | hk
    · omega
    · unfold Blk at hb
      rw [hb] at ho
      injection ho with ho
      subst ho
      rcases ht with rfl | rfl <;> simp [isWin] at hk⟩
theorem Turns.set {g i : Nat} {t : TypeId} {cs : Array Value} (u : Value) (hb : Blk w g t cs) (ht : t = 71 ∨ t = 73) (hg : base ≤ g) : Turns base w (w.setCell ⟨g, i, none⟩ u) :=
  Turns.of_grown (g := g) ⟨rfl, rfl, rfl, by simp [World.setCell], fun k hk hn => Below.heap_setCell w ⟨g, i, none⟩ u k (by rintro rfl; exact hn rfl)⟩ hb ht hg
theorem Turns.below (h : Turns base w w') (hb : base ≤ w.heap.size) : Below base w w' :=
  ⟨h.os, h.tape, h.output, h.size, fun k hk => by
    have hlt : k < w.heap.size := by omega
    rw [Array.getElem?_eq_getElem hlt]
    exact h.block k _ (Array.getElem?_eq_getElem hlt) (.inl hk)⟩
theorem Turns.blk (h : Turns base w w') {g : Nat} {t : TypeId} {cs : Array Value} (hb : Blk w g t cs) (h1 : t ≠ 71) (h2 : t ≠ 73) : Blk w' g t cs :=
  h.block g _ hb (.inr (by simp [isWin, h1, h2]))
theorem Turns.off (h : Turns base w w') {B : Nat} {e : TypeId} {size n c : Nat} {A : Option Addr} {xs : List Value} (hr : OffRow w B e size A n c xs) (h1 : e ≠ 71) (h2 : e ≠ 73) : OffRow w' B e size A n c xs :=
  ⟨hr.len, hr.le, hr.max, hr.blk.imp id fun ⟨g, o, cur, e1, e2, e3, e4⟩ => ⟨g, o, cur, e1, e2, h.blk e3 h1 h2, e4⟩⟩
theorem Turns.rdT (h : Turns base w w') {e : TypeId} {n : Nat} {A : Option Addr} {vs : List Value} (hr : RdT w e A n vs) (h1 : e ≠ 71) (h2 : e ≠ 73) : RdT w' e A n vs :=
  ⟨hr.1, fun hn => by obtain ⟨g, o, cur, e1, hk, hc⟩ := hr.2 hn; exact ⟨g, o, cur, e1, h.blk hk h1 h2, hc⟩⟩
end
theorem Turns.own {base : Nat} {w w' : World} (h : Turns base w w') {B : Nat} {e : TypeId} {size n : Nat} {v : Value} {xs : List Value} (ho : w.ownsRow B e size v n xs) (h1 : e ≠ 71) (h2 : e ≠ 73) : w'.ownsRow B e size v n xs := by
  obtain ⟨g1, g2⟩ := ho
  refine ⟨g1, ?_⟩
  rcases g2 with g2 | ⟨g, cap, cur, hv, hb, hh, r⟩
  · exact .inl g2
  · exact .inr ⟨g, cap, cur, hv, hb, h.blk hh h1 h2, r⟩
theorem WinR.grown {w w' : World} {base b fr wh : Nat} {ss : List (Option V)} (h : WinR w base b fr wh ss) {g : Nat} {t : TypeId} {cs : Array Value} (hg : w.grownBy w' (some g)) (hb : Blk w g t cs) (h1 : t ≠ 71) (h2 : t ≠ 73) : WinR w' base b fr wh ss := by
  obtain ⟨A, n, c, g1, g2, g3, g4⟩ := h
  refine ⟨A, n, c, g1.grown hg (fun e => ?_), g2.grown hg (fun g' o e e' => ?_), g3, g4⟩
  · injection e with e
    exact hb.apart g1 h1 e.symm
  · injection e' with e'
    subst e e'
    obtain ⟨cur, hgb⟩ := g2.blkAt
    exact hb.apart hgb h2 rfl
theorem run_max0 {P : Program} (w : World) (ts : Array TypeId) (t : TypeId) (n : Int) :
    (Builtin.max_ ts t #[.int .i64 n, .int .i64 0]).run P w = .ok (.int .i64 (max n 0)) w := by
  have e : max n 0 = if (n : Int) < 0 then 0 else n := by omega
  rw [e]
  simp [Builtin.max_, Builtin.max2]
/-- the number that a window begins behind -/
def Wd.held (n : Int) : Nat := (min (max n 0) 1099511627776).toNat
theorem run_min40 {P : Program} (w : World) (ts : Array TypeId) (t : TypeId) (n : Int) :
    (Builtin.min_ ts t #[.int .i64 (max n 0), .int .i64 1099511627776]).run P w = .ok (.int .i64 (Wd.held n : Nat)) w := by
  have e : ((Wd.held n : Nat) : Int) = if (1099511627776 : Int) < max n 0 then 1099511627776 else max n 0 := by unfold Wd.held; omega
  rw [e]
  simp [Builtin.min_, Builtin.min2]
theorem new_any (w : World) (n : Int) :
    Calls Try.prog 27 #[.int .i64 n] w fun e w' => ∃ b, e = .returned (.pointer (some ⟨b, 0, none⟩)) ∧ WinR w' w.heap.size b (Wd.held n) (Wd.held n) [] ∧ Below w.heap.size w w' := by
  have h1 := fun (w : World) ts t => run_max0 (P := Try.prog) w ts t n
  have h2 := fun (w : World) ts t => run_min40 (P := Try.prog) w ts t n
  go_enter Try.func27, Try.ntmps27
  go_wp2
  go_ret
  exact ⟨_, rfl, ⟨none, 0, 0, Blk.new _ _ _, OffRow.nil _ _ _ _, Nat.le_refl _, by unfold Fit Wd.held; omega⟩, (Below.refl _ _).alloc (Nat.le_refl _) _⟩
/-- what a refused Put leaves -/
theorem put_no (w : World) (base b fr wh : Nat) (ss : List (Option V)) (h : WinR w base b fr wh ss) (hwh : Fit wh) (i : Int) (x : V) (hi : i ≤ fr ∨ (wh : Int) + 64 < i ∨ Wd.hasB fr ss i = true) :
    Calls Try.prog 28 #[.pointer (some ⟨b, 0, none⟩), .int .i64 i, enc x] w fun e w' => e = .returned (.bool false) ∧ Below w.heap.size w w' := by
  have HB := Below.refl w.heap.size w
  have HC := Lib.hid (has_any w base b fr wh ss h i)
  obtain ⟨A, n, c, h1, h2, h3, h4⟩ := h
  have hc0 := h1.cell 0
  have hc1 := h1.cell 1
  simp at hc0 hc1
  have hw := hwh.out
  have hww : (wh : Int) ≤ 2000000000000 := by omega
  clear h1 h2 h3 h4 hw hwh
  by_cases ha : i ≤ fr
  · have hd : decide (i ≤ (fr : Int)) = true := by simpa using ha
    clear hi ha
    go_enter Try.func28, Try.ntmps28
    go_wp2
    go_ret
    exact ⟨rfl, HB⟩
  · have hd : decide (i ≤ (fr : Int)) = false := by simpa using ha
    by_cases hb : (wh : Int) + 64 < i
    · have hd2 : decide ((wh : Int) + 64 < i) = true := by simpa using hb
      clear hi ha hb
      go_enter Try.func28, Try.ntmps28
      go_wp2
      go_ret
      exact ⟨rfl, HB⟩
    · have hd2 : decide ((wh : Int) + 64 < i) = false := by simpa using hb
      have hh : Wd.hasB fr ss i = true := by
        rcases hi with hi | hi | hi
        · exact absurd hi ha
        · exact absurd hi hb
        · exact hi
      rw [hh] at HC
      clear hi ha hb hh
      go_enter Try.func28, Try.ntmps28
      go_wp2_with fail
      refine HC.out.mono ?_
      rintro e w1 ⟨rfl, m, hm⟩
      have hB1 : Below w.heap.size w w1 := by rw [hm]; exact below_drewN HB m
      clear hm
      go_wp2
      go_ret
      exact ⟨rfl, hB1⟩
/-- how many slots there are, and the mark, as the world tells -/
def winLen (w : World) (b : Nat) : Nat := match w.cell? ⟨b, 2, none⟩ with | some (.slice _ n _) => n | _ => 0
def winMark (w : World) (b : Nat) : Nat := match w.cell? ⟨b, 1, none⟩ with | some v => (intOf v).toNat | _ => 0
theorem winLen_of {w : World} {base b fr wh : Nat} {ss : List (Option V)} (h : WinR w base b fr wh ss) : winLen w b = ss.length := by
  obtain ⟨A, n, c, h1, h2, _⟩ := h
  unfold winLen
  rw [h1.cell 2]
  exact (len_of h2).symm
theorem winMark_of {w : World} {base b fr wh : Nat} {ss : List (Option V)} (h : WinR w base b fr wh ss) : winMark w b = wh := by
  obtain ⟨A, n, c, h1, h2, _⟩ := h
  unfold winMark
  rw [h1.cell 1]
  simp [intOf]
section
variable {w w3 : World} {base b n n2 c c2 : Nat} {x y : Value} {A A2 : Option Addr} {xs xs2 : List Value} {o : Obj}
theorem grow_step (hb : Blk w b 71 #[x, y, .slice A n c]) (hr : OffRow w base 73 2 A n c xs) (hg : (w.alloc o).grownBy w3 (Value.slice A n c).ownBlock) :
    Blk w3 b 71 #[x, y, .slice A n c] ∧ Turns base w w3 := by
  have h0 : Turns base w (w.alloc o) := Turns.of_below ((Below.refl _ _).alloc (Nat.le_refl _) _)
  rcases hr.blk with ⟨rfl, _⟩ | ⟨g, oo, cur, rfl, hge, hgb, _⟩
  · exact ⟨(hb.alloc o).grown hg (by simp [Value.ownBlock]), h0.trans (Turns.of_below ⟨hg.os, hg.tape, hg.output, hg.size, fun k hk => hg.block k hk (by simp [Value.ownBlock])⟩)⟩
  · have hne : b ≠ g := hb.apart hgb (by decide)
    exact ⟨(hb.alloc o).grown hg (by simp [Value.ownBlock, hne]), h0.trans (Turns.of_grown hg (hgb.alloc o) (.inr rfl) hge)⟩
theorem store_step (hb : Blk w b 71 #[x, y, .slice A n c]) (hr : OffRow w base 73 2 A2 n2 c2 xs2) (hbb : base ≤ b) :
    Blk (w.setCell ⟨b, 2, none⟩ (.slice A2 n2 c2)) b 71 #[x, y, .slice A2 n2 c2] ∧ OffRow (w.setCell ⟨b, 2, none⟩ (.slice A2 n2 c2)) base 73 2 A2 n2 c2 xs2 ∧ Turns base w (w.setCell ⟨b, 2, none⟩ (.slice A2 n2 c2)) := by
  refine ⟨hb.set_ 2 _, hr.setOther _ (fun g oo e => ?_), Turns.set _ hb (.inl rfl) hbb⟩
  subst e
  obtain ⟨cur, hgb⟩ := hr.blkAt
  exact (hb.apart hgb (by decide)).symm
theorem mark_step {z : Value} (hb : Blk w b 71 #[x, y, .slice A n c]) (hr : OffRow w base 73 2 A n c xs) (hbb : base ≤ b) :
    Blk (w.setCell ⟨b, 1, none⟩ z) b 71 #[x, z, .slice A n c] ∧ OffRow (w.setCell ⟨b, 1, none⟩ z) base 73 2 A n c xs ∧ Turns base w (w.setCell ⟨b, 1, none⟩ z) := by
  refine ⟨hb.set_ 1 _, hr.setOther _ (fun g oo e => ?_), Turns.set _ hb (.inl rfl) hbb⟩
  subst e
  obtain ⟨cur, hgb⟩ := hr.blkAt
  exact (hb.apart hgb (by decide)).symm
theorem slot_step {ss : List (Option V)} {k g oo : Nat} {v : V} (hb : Blk w b 71 #[x, y, .slice (some ⟨g, oo, none⟩) n c]) (hr : OffRow w base 73 2 (some ⟨g, oo, none⟩) n c (cellsOf ss)) (hk : k < n) :
    Blk ((w.setCell ⟨g, oo + k * 2, none⟩ (enc v)).setCell ⟨g, oo + k * 2 + 1, none⟩ (.bool true)) b 71 #[x, y, .slice (some ⟨g, oo, none⟩) n c] ∧
    OffRow ((w.setCell ⟨g, oo + k * 2, none⟩ (enc v)).setCell ⟨g, oo + k * 2 + 1, none⟩ (.bool true)) base 73 2 (some ⟨g, oo, none⟩) n c (cellsOf (ss.set k (some v))) ∧
    Turns base w ((w.setCell ⟨g, oo + k * 2, none⟩ (enc v)).setCell ⟨g, oo + k * 2 + 1, none⟩ (.bool true)) := by
  obtain ⟨cur, hgb⟩ := hr.blkAt
  have hne : b ≠ g := hb.apart hgb (by decide)
  have h1 := hr.set (i := k * 2) (by omega) (enc v)
  have h2 := h1.set (i := k * 2 + 1) (by omega) (.bool true)
  rw [Wd.cells_set, ← Nat.add_assoc] at h2
  have hg1 : ∀ (w : World) (i : Nat) (u : Value), w.grownBy (w.setCell ⟨g, i, none⟩ u) (some g) := fun w i u => ⟨rfl, rfl, rfl, by simp [World.setCell], fun k hk hn => Below.heap_setCell w ⟨g, i, none⟩ u k (by rintro rfl; exact hn rfl)⟩
  have hs : some b ≠ some g := fun e => hne (by injection e)
  exact ⟨(hb.grown (hg1 _ _ _) hs).grown (hg1 _ _ _) hs, h2, (Turns.set _ hgb (.inr rfl) hr.base_le).trans (Turns.set _ (hgb.set_ _ _) (.inr rfl) hr.base_le)⟩
end
set_option maxRecDepth 100000 in
set_option maxHeartbeats 1000000 in
theorem put_yes (w : World) (base b fr wh : Nat) (ss : List (Option V)) (h : WinR w base b fr wh ss) (hbase : base ≤ w.heap.size) (hwh : wh = fr + Wd.lead ss) (k : Nat) (x : V) (hk : fr + 1 + k ≤ wh + 64) (hno : ss[k]?.join = none) (hfit : Fit (fr + k + 1)) :
    Calls Try.prog 28 #[.pointer (some ⟨b, 0, none⟩), .int .i64 ((fr : Int) + 1 + (k : Int)), enc x] w fun e w' => e = .returned (.bool true) ∧ WinR w' base b fr (fr + Wd.lead (Wd.laid ss k x)) (Wd.laid ss k x) ∧ Turns base w w' := by
  have hh : Wd.hasB fr ss ((fr : Int) + 1 + (k : Int)) = false := by
    have e : ((fr : Int) + 1 + (k : Int)) = ((fr + 1 + k : Nat) : Int) := by omega
    rcases Nat.lt_or_ge k ss.length with hl | hl
    · rw [e, Wd.hasB_at hl]
      rw [List.getElem?_eq_getElem hl] at hno
      simp at hno; simp [hno]
    · exact Wd.hasB_far (by omega)
  have HC := Lib.hid (has_any w base b fr wh ss h ((fr : Int) + 1 + (k : Int)))
  rw [hh] at HC
  have HW := Lib.hid h
  have hd2 : decide ((wh : Int) + 64 < (fr : Int) + 1 + (k : Int)) = false := by simp; omega
  have hd : decide ((fr : Int) + 1 + (k : Int) ≤ (fr : Int)) = false := by simp; omega
  have HL := Lib.hid (Wd.lead_le ss)
  obtain ⟨A, n, c, h1, h2, h3, h4⟩ := h
  have hc0 := h1.cell 0
  have hc1 := h1.cell 1
  simp at hc0 hc1
  have hww : (wh : Int) ≤ 2000000000000 := by have := h4.out; have := HL.out; have := len_of h2; omega
  have hb2 : base ≤ b := h3
  have HN := Lib.hid hwh
  have HB := Lib.hid (Below.refl w.heap.size w)
  have HF := Lib.hid hfit
  have hi1 : (fr : Int) + 1 + (k : Int) ≤ 2000000000000 := by have := hfit.out; omega
  clear h1 h2 h3 h4 hwh hno hh hfit
  go_enter Try.func28, Try.ntmps28
  go_wp2_with fail
  refine HC.out.mono ?_
  rintro e w1 ⟨rfl, m, hm⟩
  have HW1 := Lib.hid (show WinR w1 base b fr wh ss by rw [hm]; exact HW.out.drewN m)
  have HT1 := Lib.hid (show Turns base w w1 by rw [hm]; exact Turns.of_below (below_drewN HB.out m))
  clear hm hc0 hc1
  go_wp2_with fail
  go_loopw [27] (fun _ wr => ∃ j, j ≤ k + 1 - ss.length ∧ WinR wr base b fr wh (ss ++ List.replicate j none) ∧ Turns base w wr) (fun _ wr => k + 1 - winLen wr b)
  case atStart => exact ⟨0, Nat.zero_le _, by simpa using HW1.out, HT1.out⟩
  case round =>
    obtain ⟨j, hj, hw, ht⟩ := hrel
    have HWr := Lib.hid hw
    have HTr := Lib.hid ht
    have hlen : (ss ++ List.replicate j none).length = ss.length + j := by simp
    have HM := Lib.hid (winLen_of hw)
    have HTop := Lib.hid (top_any wr base b fr wh _ hw)
    rw [hlen] at HTop HM
    obtain ⟨q, hq⟩ : ∃ q, q = ss.length + j := ⟨_, rfl⟩
    rw [← hq] at HTop HM
    have HQ := Lib.hid hq
    clear hw ht hlen
    by_cases hlt : q < k + 1
    · have hlt' : (fr : Int) + (q : Int) < (fr : Int) + 1 + (k : Int) := by omega
      clear hq
      go_wp2_with fail
      refine HTop.out.mono ?_
      rintro e w2 ⟨rfl, m2, hm2⟩
      have HW2 := Lib.hid (show WinR w2 base b fr wh (ss ++ List.replicate j none) by rw [hm2]; exact HWr.out.drewN m2)
      have HT2 := Lib.hid (show Turns base w w2 by rw [hm2]; exact HTr.out.trans (Turns.of_below (below_drewN (Below.refl _ _) m2)))
      clear hm2
      obtain ⟨A2, n2, c2, g1, g2, g3, g4⟩ := HW2.out
      have hg0 := g1.cell 2
      simp at hg0
      have hln := len_of g2
      have hnn : n2 ≤ 2000000000000 := by have := g4.out; omega
      have HG1 := Lib.hid g1
      have HG2 := Lib.hid g2
      have HLN := Lib.hid hln
      clear g1 g2 g3 g4 hln
      go_wp2_with (at_builtin; refine wpList_append_off (base := base) (n := n2) Try.underlying69 slotT rfl (.tmp 35) (.tmp 37) rfl (by rfl) rfl (HG2.out.alloc _) (ad := ⟨w2.heap.size, 0, none⟩) (m := 1) (c' := 1) (news := [zero, .bool false]) rfl (by omega) rfl (fun q u hu => by
          rw [addr_add, Nat.zero_add, World.cell?_alloc_mark]; simpa using hu) (by intro u hu; simp at hu; rcases hu with rfl | rfl <;> rfl) (by omega) (by omega) (by have := HT2.out.size; simp; omega) ?_; intro A3 c3 w3 hown3 hgrow3; obtain ⟨s1, s2⟩ := grow_step (base := base) HG1.out HG2.out hgrow3; obtain ⟨s3, s4, s5⟩ := store_step s1 hown3 hb2; have hf2 := s1.frozen 2; have hc2 := s1.cell 2; simp at hc2; have HS3 := Lib.hid s3; have HS4 := Lib.hid s4; have HS5 := Lib.hid ((HT2.out.trans s2).trans s5); clear s1 s2 s3 s4 s5 hown3 hgrow3 hg0)
      go_roundw
      case rel =>
        refine ⟨j + 1, by have := HQ.out; omega, ⟨A3, n2 + 1, c3, HS3.out, ?_, hb2, ?_⟩, HS5.out⟩
        · have h5 := HS4.out
          have e1 : cellsOf (ss ++ List.replicate (j + 1) none) = cellsOf (ss ++ List.replicate j none) ++ [zero, .bool false] := by
            rw [List.replicate_succ', ← List.append_assoc, cellsOf, Wd.cells_append]; rfl
          rw [e1]; exact h5
        · have h6 := HLN.out; have h7 := HF.out.out; have h8 := HQ.out; rw [List.length_append, List.length_replicate] at h6; unfold Fit; omega
      case measure =>
        have e1 : winLen (w3.setCell ⟨b, 2, none⟩ (.slice A3 (n2 + 1) c3)) b = n2 + 1 := by unfold winLen; rw [HS3.out.cell 2]; rfl
        have e2 := HM.out
        have e3 := HLN.out
        have e4 := HQ.out
        rw [List.length_append, List.length_replicate] at e3
        rw [e1, e2]; omega
    · have hlt' : ¬ (fr : Int) + (q : Int) < (fr : Int) + 1 + (k : Int) := by omega
      have hqk : k < q := by omega
      have HJ := Lib.hid hj
      clear hq hlt hj
      go_wp2_with fail
      refine HTop.out.mono ?_
      rintro e w2 ⟨rfl, m2, hm2⟩
      have HW2 := Lib.hid (show WinR w2.drew base b fr wh (ss ++ List.replicate j none) by rw [hm2]; exact (HWr.out.drewN m2).drew)
      have HT2 := Lib.hid (show Turns base w w2.drew by rw [hm2]; exact HTr.out.trans (Turns.of_below (below_drewN (Below.refl _ _) m2).drew))
      clear hm2
      go_upto_region 5 with fail
      obtain ⟨w4, hw4⟩ : ∃ w4, w4 = w2.drew := ⟨_, rfl⟩
      rw [← hw4] at HW2 HT2
      obtain ⟨A2, n2, c2, g1, g2, g3, g4⟩ := HW2.out
      have hln := len_of g2
      have hqn : q = n2 := by have := HQ.out; rw [List.length_append, List.length_replicate] at hln; omega
      subst hqn
      obtain ⟨g, oo, cur, rfl, _, _, _, _⟩ := g2.addr (by have := g2.le; omega)
      refine wp_region_held_drew (S := fun wq => wq.cell? ⟨b, 2, none⟩ = some (.slice (some ⟨g, oo, none⟩) q c2)) (by kernel_rfl) (by rw [← hw4]; exact g1.cell 2) (fun _ => ?_)
      rw [← hw4]
      clear hw4
      have hf1 := g2.frozen (oo + k * 2)
      have hf2 := g2.frozen (oo + k * 2 + 1)
      obtain ⟨v1, hx1⟩ : ∃ v, w4.cell? ⟨g, oo + k * 2, none⟩ = some v := ⟨_, (g2.cell (i := k * 2) (by omega)).trans (Wd.cells_any enc zero (by omega))⟩
      obtain ⟨v2, hx2⟩ : ∃ v, w4.cell? ⟨g, oo + k * 2 + 1, none⟩ = some v := ⟨_, (g2.cell (i := k * 2 + 1) (by omega)).trans (Wd.cells_there enc zero (List.getElem?_eq_getElem (by omega)))⟩
      obtain ⟨t1, t2, t3⟩ := slot_step (v := x) g1 g2 hqk
      have HT1' := Lib.hid t1
      have HT2' := Lib.hid t2
      have HT3' := Lib.hid (HT2.out.trans t3)
      have HS := Lib.hid (g1.cell 2)
      have HSx := Lib.hid (t1.cell 2)
      have HWd := HW2
      have HG4 := Lib.hid g4
      simp at HS HSx
      clear g1 g2 g3 g4 hln t1 t2 t3
      refine wpAnyH_take (i := 0) (v := .pointer (some ⟨b, 0, none⟩)) rfl (by kernel_rfl) (by kernel_rfl) (by kernel_rfl) (fun _ _ _ h => h) (Or.inl ⟨by kernel_rfl, fun w _ => by go_simp⟩) HS.out ?_
      refine wpAnyH_take (i := 1) (v := .pointer (some ⟨b, 0, none⟩)) rfl (by kernel_rfl) (by kernel_rfl) (by kernel_rfl) (fun _ _ _ h => h) (Or.inl ⟨by kernel_rfl, fun w _ => by go_simp⟩) HS.out ?_
      refine wpAnyH_take (i := 2) (v := .pointer (some ⟨b, 2, none⟩)) rfl (by kernel_rfl) (by kernel_rfl) (by kernel_rfl) (fun _ _ _ h => h) (Or.inl ⟨by kernel_rfl, fun w _ => by go_simp⟩) HS.out ?_
      refine wpAnyH_take (i := 3) (v := .slice (some ⟨g, oo, none⟩) q c2) rfl (by kernel_rfl) (by kernel_rfl) (by kernel_rfl) (fun _ _ _ h => h) (Or.inl ⟨by kernel_rfl, fun wq h => by go_simp⟩) HS.out ?_
      refine wpAnyH_take (i := 4) (v := .pointer (some ⟨b, 0, none⟩)) rfl (by kernel_rfl) (by kernel_rfl) (by kernel_rfl) (fun _ _ _ h => h) (Or.inl ⟨by kernel_rfl, fun w _ => by go_simp⟩) HS.out ?_
      refine wpAnyH_take (i := 5) (v := .int .i64 ((fr : Int) + 1 + (k : Int))) rfl (by kernel_rfl) (by kernel_rfl) (by kernel_rfl) (fun _ _ _ h => h) (Or.inl ⟨by kernel_rfl, fun w _ => by go_simp⟩) HS.out ?_
      refine wpAnyH_take (i := 7) (v := enc x) rfl (by kernel_rfl) (by kernel_rfl) (by kernel_rfl) (fun _ _ _ h => h) (Or.inl ⟨by kernel_rfl, fun w _ => by go_simp⟩) HS.out ?_
      refine wpAnyH_take (i := 8) (v := .agg #[enc x, .bool true]) rfl (by kernel_rfl) (by kernel_rfl) (by kernel_rfl) (fun _ _ _ h => h) (Or.inl ⟨by kernel_rfl, fun w _ => by go_simp⟩) HS.out ?_
      refine wpAnyH_ready (rs := [6]) (by kernel_rfl) (by simp) ?_
      refine AllReadyH.cons rfl (fun K hK => ?_) AllReadyH.nil
      go_simp
      refine (place_any _ base b fr wh _ HWd.out k (by have := HF.out.out; unfold Fit; omega)).mono ?_
      rintro e w3 ⟨rfl, rfl⟩
      go_simp
      refine hK.out _ _ HS.out (fun _ => ?_)
      clear hK K
      refine wpAnyH_ready (rs := [9]) (by kernel_rfl) (by simp) ?_
      refine AllReadyH.cons rfl (fun K hK => ?_) AllReadyH.nil
      go_simp
      refine hK.out _ _ HS.out (fun _ => ?_)
      clear hK K
      refine wpAnyH_ready (rs := [10]) (by kernel_rfl) (by simp) ?_
      refine AllReadyH.cons rfl (fun K hK => ?_) AllReadyH.nil
      go_simp
      refine hK.out _ _ HSx.out (fun _ => ?_)
      clear hK K
      refine wpAnyH_done (by kernel_rfl) ?_ _
      have hlaid : (ss ++ List.replicate j none).set k (some x) = Wd.laid ss k x := by
        have h1 := HJ.out
        have h2 := HQ.out
        have h3 : j = k + 1 - ss.length := by omega
        rw [h3]; rfl
      rw [hlaid] at HT2'
      have HWf := Lib.hid (show WinR ((w4.setCell ⟨g, oo + k * 2, none⟩ (enc x)).setCell ⟨g, oo + k * 2 + 1, none⟩ (.bool true)) base b fr wh (Wd.laid ss k x) from ⟨_, q, c2, HT1'.out, HT2'.out, hb2, HG4.out⟩)
      clear hlaid hx1 hx2 hf1 hf2
      have HLL := Lib.hid (Wd.lead_laid ss k x)
      have HLE := Lib.hid (Wd.lead_le (Wd.laid ss k x))
      have HLN := Lib.hid (Wd.laid_length ss k x)
      have HTf := HT3'
      clear HT1' HT2' HT3' HS HSx HG4 HWd HW2 HT2
      dsimp only [enc] at HWf HTf
      generalize (w4.setCell ⟨g, oo + k * 2, none⟩ (.string x)).setCell ⟨g, oo + k * 2 + 1, none⟩ (.bool true) = w5 at HWf HTf ⊢
      go_wp2_with fail
      go_loopw [51] (fun _ wr => ∃ p, Wd.lead ss ≤ p ∧ p ≤ Wd.lead (Wd.laid ss k x) ∧ WinR wr base b fr (fr + p) (Wd.laid ss k x) ∧ Turns base w wr) (fun _ wr => fr + Wd.lead (Wd.laid ss k x) - winMark wr b)
      case atStart => exact ⟨Wd.lead ss, Nat.le_refl _, HLL.out, by rw [← HN.out]; exact HWf.out, HTf.out⟩
      case round =>
        obtain ⟨p, hp1, hp2, hwp, htp⟩ := hrel
        have HCp := Lib.hid (has_any wr base b fr (fr + p) _ hwp ((fr : Int) + (p : Int) + 1))
        have e0 : ((fr : Int) + (p : Int) + 1) = ((fr + p : Nat) : Int) + 1 := by omega
        rw [e0, Wd.hasB_next hp2, ← e0] at HCp
        have HMp := Lib.hid (winMark_of hwp)
        have HWp := Lib.hid hwp
        have HTp := Lib.hid htp
        have hpp : (fr : Int) + (p : Int) ≤ 2000000000000 := by
          have h1 := HLE.out; have h2 := HF.out.out; have h3 := HLN.out; have h4 := HL.out
          obtain ⟨_, q4, _, _, q1, _, q2⟩ := hwp
          have q3 := len_of q1
          have q5 := q2.out
          omega
        obtain ⟨A6, n6, c6, g1, g2, g3, g4⟩ := hwp
        have hg1 := g1.cell 1
        simp at hg1
        have hgf := g1.frozen 1
        have HG1 := Lib.hid g1
        have HG2 := Lib.hid g2
        have HG4 := Lib.hid g4
        have HP1 := Lib.hid hp1
        have HP2 := Lib.hid hp2
        clear g1 g2 g3 g4 htp e0 hp1 hp2
        by_cases hlt : p < Wd.lead (Wd.laid ss k x)
        · rw [decide_eq_true hlt] at HCp
          go_wp2_with fail
          refine HCp.out.mono ?_
          rintro e w6 ⟨rfl, m6, hm6⟩
          have hg1' : w6.cell? ⟨b, 1, none⟩ = some (.int .i64 ((fr : Int) + (p : Int))) := by rw [hm6]; exact hg1
          have hgf' : w6.frozen? ⟨b, 1, none⟩ = false := by rw [hm6]; exact hgf
          have hB6 := below_drewN (Below.refl wr.heap.size wr) m6
          rw [← hm6] at hB6
          obtain ⟨s1, s2, s3⟩ := mark_step (z := .int .i64 ((fr : Int) + (p : Int) + 1)) (HG1.out.below hB6) (HG2.out.below hB6) hb2
          have HS1 := Lib.hid s1
          have HS2 := Lib.hid s2
          have HS3 := Lib.hid ((HTp.out.trans (Turns.of_below hB6)).trans s3)
          clear hm6 hg1 hgf hB6 s1 s2 s3
          go_wp2
          go_roundw
          case rel =>
            refine ⟨p + 1, by have := HP1.out; omega, by omega, ⟨A6, n6, c6, ?_, HS2.out, hb2, HG4.out⟩, HS3.out⟩
            have h6 := HS1.out
            have e6 : ((fr : Int) + (p : Int) + 1) = ((fr + (p + 1) : Nat) : Int) := by omega
            rw [← e6]; exact h6
          case measure =>
            have e1 : winMark (w6.setCell ⟨b, 1, none⟩ (.int .i64 ((fr : Int) + (p : Int) + 1))) b = fr + p + 1 := by
              unfold winMark
              rw [HS1.out.cell 1]
              simp [intOf]; omega
            rw [e1, HMp.out]; omega
        · have hpe : p = Wd.lead (Wd.laid ss k x) := by have := HP2.out; omega
          rw [decide_eq_false hlt] at HCp
          have HE := Lib.hid hpe
          clear hpe hlt
          go_wp2_with fail
          refine HCp.out.mono ?_
          rintro e w6 ⟨rfl, m6, hm6⟩
          have HW6 := Lib.hid (show WinR w6 base b fr (fr + p) (Wd.laid ss k x) by rw [hm6]; exact HWp.out.drewN m6)
          have HT6 := Lib.hid (show Turns base w w6 by rw [hm6]; exact HTp.out.trans (Turns.of_below (below_drewN (Below.refl _ _) m6)))
          clear hm6
          go_wp2
          go_ret
          exact ⟨rfl, by rw [← HE.out]; exact HW6.out, HT6.out⟩
theorem clear_step {w w3 : World} {base b n c : Nat} {x y : Value} {A : Option Addr} {xs : List Value} (hb : Blk w b 71 #[x, y, .slice A n c]) (hr : OffRow w base 73 2 A n c xs) (hg : w.grownBy w3 (Value.slice A n c).ownBlock) :
    Blk w3 b 71 #[x, y, .slice A n c] ∧ Turns base w w3 := by
  rcases hr.blk with ⟨rfl, _⟩ | ⟨g, oo, cur, rfl, hge, hgb, _⟩
  · exact ⟨hb.grown hg (by simp [Value.ownBlock]), Turns.of_below ⟨hg.os, hg.tape, hg.output, hg.size, fun k hk => hg.block k hk (by simp [Value.ownBlock])⟩⟩
  · have hne : b ≠ g := hb.apart hgb (by decide)
    exact ⟨hb.grown hg (by simp [Value.ownBlock, hne]), Turns.of_grown hg hgb (.inr rfl) hge⟩
theorem from_step {w : World} {base b n c : Nat} {x y z : Value} {A : Option Addr} {xs : List Value} (hb : Blk w b 71 #[x, y, .slice A n c]) (hr : OffRow w base 73 2 A n c xs) (hbb : base ≤ b) :
    Blk (w.setCell ⟨b, 0, none⟩ z) b 71 #[z, y, .slice A n c] ∧ OffRow (w.setCell ⟨b, 0, none⟩ z) base 73 2 A n c xs ∧ Turns base w (w.setCell ⟨b, 0, none⟩ z) := by
  refine ⟨hb.set_ 0 _, hr.setOther _ (fun g oo e => ?_), Turns.set _ hb (.inl rfl) hbb⟩
  subst e
  obtain ⟨cur, hgb⟩ := hr.blkAt
  exact (hb.apart hgb (by decide)).symm
theorem cut_no (w : World) (base b fr wh : Nat) (ss : List (Option V)) (h : WinR w base b fr wh ss) (i : Int) (hi : i ≤ fr ∨ (wh : Int) < i) :
    Calls Try.prog 32 #[.pointer (some ⟨b, 0, none⟩), .int .i64 i] w fun e w' => e = .returned (.tuple #[]) ∧ w = w' := by
  obtain ⟨A, n, c, h1, h2, h3, h4⟩ := h
  have hc0 := h1.cell 0
  have hc1 := h1.cell 1
  simp at hc0 hc1
  clear h1 h2 h3 h4
  by_cases ha : i ≤ fr
  · have hd : decide (i ≤ (fr : Int)) = true := by simpa using ha
    clear hi ha
    go_enter Try.func32, Try.ntmps32
    go_wp2
    exact bodyPost_ret (results_none rfl _ _ _) rfl ⟨rfl, rfl⟩
  · have hd : decide (i ≤ (fr : Int)) = false := by simpa using ha
    have hd2 : decide ((wh : Int) < i) = true := by simp; omega
    clear hi ha
    go_enter Try.func32, Try.ntmps32
    go_wp2
    exact bodyPost_ret (results_none rfl _ _ _) rfl ⟨rfl, rfl⟩
set_option maxRecDepth 100000 in
set_option maxHeartbeats 1000000 in
theorem cut_yes (w : World) (base b fr wh : Nat) (ss : List (Option V)) (h : WinR w base b fr wh ss) (hwh : wh = fr + Wd.lead ss) (k : Nat) (hk : k ≤ Wd.lead ss) (hk0 : 0 < k) :
    Calls Try.prog 32 #[.pointer (some ⟨b, 0, none⟩), .int .i64 ((fr : Int) + (k : Int))] w fun e w' => e = .returned (.tuple #[]) ∧ WinR w' base b (fr + k) wh (ss.drop k) ∧ Turns base w w' := by
  have hll := Wd.lead_le ss
  have HW := Lib.hid h
  obtain ⟨A, n, c, h1, h2, h3, h4⟩ := h
  have hc0 := h1.cell 0
  have hc1 := h1.cell 1
  have hc2 := h1.cell 2
  simp at hc0 hc1 hc2
  have hln := len_of h2
  have hfit := h4.out
  have hd : decide ((fr : Int) + (k : Int) ≤ (fr : Int)) = false := by simp; omega
  have hd2 : decide ((wh : Int) < (fr : Int) + (k : Int)) = false := by simp; omega
  have HP : Hid (Calls Try.prog 38 #[.pointer (some ⟨b, 0, none⟩), .int .i64 ((fr : Int) + (k : Int) + 1)] w fun e w' => e = .returned (.int .i64 (k : Int)) ∧ w = w') := by
    have := place_any w base b fr wh ss HW.out k (by unfold Fit; omega)
    rw [show (fr : Int) + 1 + (k : Int) = (fr : Int) + (k : Int) + 1 by omega] at this
    exact Lib.hid this
  have hb2 : base ≤ b := h3
  have hkn : k ≤ n := by omega
  have hkc : k ≤ c := by have := h2.le; omega
  have hfk : (fr : Int) + (k : Int) ≤ 2000000000000 := by omega
  have HB := Lib.hid h1
  have HR := Lib.hid h2
  have HF := Lib.hid hfit
  obtain ⟨i0, hi1, hi2, hi3, hi4⟩ := info_parts slotT
  have hs1 := run_slice_to (P := Try.prog) (t := 69) Try.underlying69 hi1 A n c k hkc
  have hs2 := run_slice_fromS (P := Try.prog) (t := 69) Try.underlying69 hi1 hi3 A n c k hkn
  obtain ⟨w2, ys, hrun, hown2, hyl, hgrow2⟩ := run_clear_off (P := Try.prog) w base 69 0 73 i0 _ 2 Try.underlying69 hi1 hi2 rfl (by intro u hu; simp [Value.cells] at hu; rcases hu with rfl | rfl <;> rfl) A n c _ h2 k hkn
  obtain ⟨s1, s2⟩ := clear_step h1 h2 hgrow2
  have hd2' := s1.cell 2
  have hd0' := s1.cell 0
  have hf2 := s1.frozen 2
  have hf0 := s1.frozen 0
  simp at hd2' hd0'
  have hown3 := hown2.drop hkn
  obtain ⟨s3, s4, s5⟩ := store_step s1 hown3 hb2
  obtain ⟨s6, s7, s8⟩ := from_step (z := .int .i64 ((fr : Int) + (k : Int))) s3 s4 hb2
  have HS6 := Lib.hid s6
  have HS7 := Lib.hid s7
  have HS8 := Lib.hid ((s2.trans s5).trans s8)
  have HY := Lib.hid hyl
  clear h1 h2 h3 h4 hln hfit hll hi1 hi2 hi3 hi4 hwh s1 s2 s3 s4 s5 s6 s7 s8 hown2 hown3 hyl hgrow2
  go_enter Try.func32, Try.ntmps32
  go_wp2_with fail
  refine HP.out.mono ?_
  rintro e w1 ⟨rfl, rfl⟩
  go_wp2
  go_end0
  refine ⟨rfl, ⟨cutAtS A c k 2, n - k, c - k, ?_, ?_, hb2, ?_⟩, HS8.out⟩
  · have := HS6.out
    rw [show ((fr : Int) + (k : Int)) = ((fr + k : Nat) : Int) by omega] at this
    exact this
  · have h7 := HS7.out
    have e1 : (ys ++ (cellsOf ss).drop (k * 2)).drop (k * 2) = cellsOf (ss.drop k) := by
      rw [List.drop_append, HY.out, List.drop_of_length_le (by rw [HY.out]; omega), Nat.sub_self, List.drop_zero, List.nil_append]
      exact Wd.cells_drop enc zero ss k
    rw [e1] at h7
    exact h7
  · have := HF.out; unfold Fit; omega
/-- the same, for a caller that knows what comes of it -/
theorem put_is {w : World} {base b fr wh : Nat} {ss : List (Option V)} (h : WinR w base b fr wh ss) (hbase : base ≤ w.heap.size) (hwh : wh = fr + Wd.lead ss) (i : Int) (k : Nat) (x : V) (tt : List (Option V)) (wh' : Nat) (hi : i = (fr : Int) + 1 + (k : Int)) (hk : fr + 1 + k ≤ wh + 64) (hno : ss[k]?.join = none) (hfit : Fit (fr + k + 1)) (htt : Wd.laid ss k x = tt) (hw' : fr + Wd.lead tt = wh') :
    Calls Try.prog 28 #[.pointer (some ⟨b, 0, none⟩), .int .i64 i, enc x] w fun e w' => e = .returned (.bool true) ∧ WinR w' base b fr wh' tt ∧ Turns base w w' := by
  subst hi htt hw'
  exact put_yes w base b fr wh ss h hbase hwh k x hk hno hfit
theorem put_not {w : World} {base b fr wh : Nat} {ss : List (Option V)} (h : WinR w base b fr wh ss) (hwh : Fit wh) (i : Int) (x : V) (hi : i ≤ fr ∨ (wh : Int) + 64 < i ∨ Wd.hasB fr ss i = true) :
    Calls Try.prog 28 #[.pointer (some ⟨b, 0, none⟩), .int .i64 i, enc x] w fun e w' => e = .returned (.bool false) ∧ WinR w' base b fr wh ss ∧ Turns base w w' :=
  (put_no w base b fr wh ss h hwh i x hi).mono fun e w' ⟨h1, h2⟩ => ⟨h1, h.below h2, Turns.of_below h2⟩
theorem cut_is {w : World} {base b fr wh : Nat} {ss : List (Option V)} (h : WinR w base b fr wh ss) (hwh : wh = fr + Wd.lead ss) (i : Int) (k : Nat) (fr' : Nat) (tt : List (Option V)) (hi : i = (fr : Int) + (k : Int)) (hk : k ≤ Wd.lead ss) (hk0 : 0 < k) (hf : fr + k = fr') (htt : ss.drop k = tt) :
    Calls Try.prog 32 #[.pointer (some ⟨b, 0, none⟩), .int .i64 i] w fun e w' => e = .returned (.tuple #[]) ∧ WinR w' base b fr' wh tt ∧ Turns base w w' := by
  subst hi hf htt
  exact cut_yes w base b fr wh ss h hwh k hk hk0
end Go.Proofs.Yteafbljdlcbckaa.WS
