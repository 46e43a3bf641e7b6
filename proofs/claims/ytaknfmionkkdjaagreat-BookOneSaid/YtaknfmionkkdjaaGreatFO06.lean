/- FifoRef FifoWalks -/
import Derived.Test.YtaknfmionkkdjaaGreatFO04
import Derived.Test.YtaknfmionkkdjaaGreatFO05
import Derived.BigQuiet
import Derived.Deep.DeepCutAuto
import Derived.Deep.DrawnRows
import Derived.Deep.QuietTactic
import Derived.Deep.RegionHeld3
import Derived.Deep.RegionWith
namespace Go.Proofs.YtaknfmionkkdjaaGreat
open Go.RowKit
set_option linter.unusedVariables false
/-- each row is of a length that may be -/
def LimL (qs : List (List Nat)) : Prop := ∀ l ∈ qs, Lim 0 l.length
set_option maxRecDepth 100000 in
theorem refRows_raw (qs : List (List Nat)) (A : Option Addr) (n c B : Nat) (hn : n ≤ 100000) (hL : LimL qs) (w : World) (hr : RdQ w B A n qs) :
    Calls Tryz.prog 73 #[.slice A n c] w (GotQ w w qs) := by
  have HL := Lib.hid hL
  have HR := Lib.hid hr.fit
  have hlen := hr.length
  clear hr hL
  go_enter Tryz.func73, Tryz.ntmps73
  go_wp2_with fail
  go_loopw [3, 4] (fun s3 s4 wr => ∃ (k c' : Nat) (A' : Option Addr), k ≤ n ∧ s4 = .int .i64 (k : Int) ∧ s3 = .slice A' k c' ∧ Hid (OwnQ w wr A' k c' (qs.take k)) ∧ Hid (Below w.heap.size w wr)) (fun _ s4 _ => n - (intOf s4).toNat)
  case atStart => exact ⟨0, 0, none, Nat.zero_le _, rfl, rfl, Lib.hid (by simpa using OwnQ.nil w w), Lib.hid (Below.refl _ _)⟩
  case round =>
    obtain ⟨k, c', A', hk, rfl, rfl, HO, HB⟩ := hrel
    by_cases hlt : k < n
    · obtain ⟨b, o, l, A1, c1, rfl, hl, hcell, hrd⟩ := (HR.out.below HB.out).at hlt
      have hll : Lim 0 l.length := HL.out l (List.mem_of_getElem? hl)
      have HRD := Lib.hid hrd
      have HLL := Lib.hid hl
      clear hrd hl
      go_wp2_with (first
        | (go_at_call 72; refine (ownref_any (W := w) hll HRD.out HB.out).mono ?_; rintro e w1 ⟨A2, c2, rfl, ho2, hB2, hb2⟩; obtain ⟨vs, hv1, hv2⟩ := HO.out.below hb2)
        | (at_builtin
           refine wpList_append_cells (W := w) cellQ (.tmp 11) (.tmp 17) rfl (by rfl) rfl (ownsRow_below hv1 ((Below.refl _ _).alloc (Nat.le_refl _) _)) rfl (Rd.oneV _ _ _) (by intro u hu; simp at hu; subst hu; rfl) (by omega) (by omega) (hB2.alloc hB2.size _) ?_
           intro A3 c3 w3 hown3 hB3 hg3)
        | fail)
      go_roundw
      case rel =>
        refine ⟨k + 1, c3, A3, by omega, by go_num, rfl, Lib.hid ?_, Lib.hid hB3⟩
        have b1 : Below w1.heap.size w1 (w1.alloc (.cells #[.slice A2 l.length c2] 26)) := (Below.refl _ _).alloc (Nat.le_refl _) _
        refine ⟨vs ++ [.slice A2 l.length c2], hown3, ?_⟩
        rw [List.take_add_one, HLL.out]
        exact ((hv2.snoc ho2).below b1).grown (ownsRow_below hv1 b1) hg3
      case measure => simp only [intOf]; omega
    · obtain rfl : k = n := by omega
      go_wp2_with fail
      go_ret
      have HO2 := HO.out
      rw [List.take_of_length_le (by omega)] at HO2
      subst hlen
      exact ⟨A', c', rfl, HO2, HB.out, HB.out⟩
theorem refRows_any {W w : World} {qs : List (List Nat)} {A : Option Addr} {n c B : Nat} (hn : n ≤ 100000) (hL : LimL qs) (hr : RdQ w B A n qs) (hB : Below W.heap.size W w) :
    Calls Tryz.prog 73 #[.slice A n c] w (GotQ W w qs) :=
  (refRows_raw qs A n c B hn hL w hr).mono fun e w' h => GotQ.of hB h
/-- what Push leaves, and answers -/
def pushS (qs : List (List Nat)) (v : List Nat) : List (List Nat) := if 16 < v.length then qs else if 8 ≤ qs.length then qs else qs ++ [v]
def pushE (qs : List (List Nat)) (v : List Nat) : Int := if 16 < v.length then 1 else if 8 ≤ qs.length then 3 else 0
def pushN (qs : List (List Nat)) (v : List Nat) : Int := if 16 < v.length then 0 else if 8 ≤ qs.length then 0 else ((qs.length + 1 : Nat) : Int)
/-- what Pop leaves, and answers -/
def popE (qs : List (List Nat)) : Int := if qs.length = 0 then 4 else 0
def popV (qs : List (List Nat)) : List Nat := qs.head?.getD []
set_option maxRecDepth 100000 in
theorem refPush_raw {w : World} {qs : List (List Nat)} {v : List Nat} {A A' : Option Addr} {n c n' c' B B' : Nat} (hn : n ≤ 100000) (hL : LimL qs) (hn' : Lim 0 n') (hr : RdQ w B A n qs) (hr' : Rd w B' A' n' (bv v)) :
    Calls Tryz.prog 78 #[.slice A n c, .slice A' n' c'] w (GotQR w w (pushS qs v) (pushE qs v) [] (pushN qs v)) := by
  have hB := Below.refl w.heap.size w
  have HL := Lib.hid hL
  have HR := Lib.hid hr.fit
  have HR' := Lib.hid hr'.fit
  obtain rfl := hr.length
  obtain rfl := hr'.length
  have b0 : Below w.heap.size w (w.alloc (.cells zeroR 47)) := (Below.refl _ _).alloc (Nat.le_refl _) _
  clear hr hr' hL
  unfold pushS pushE pushN
  by_cases hlt : 16 < v.length
  · rw [if_pos hlt, if_pos hlt, if_pos hlt]
    go_enter Tryz.func78, Tryz.ntmps78
    go_wp2_with (first
      | (go_at_call 73; refine (refRows_any (W := w) hn HL.out (HR.out.below b0) (hB.alloc hB.size _)).mono ?_; rintro e w1 ⟨A1, c1, rfl, ho1, hB1, hb1⟩)
      | (go_at_call 69; refine (bad_any w1 1).mono ?_; rintro e w2 ⟨rfl, hb2⟩; unfold resV; have HK := Lib.hid (((Blk.new w 47 zeroR).below hb1).below hb2); obtain ⟨x0, x1, x2, f0, f1, f2⟩ := three HK.out)
      | fail)
    obtain ⟨k1, k2, k3⟩ := put3 HK.out (.int .i64 1) (.slice none 0 0) (.int .i64 0)
    have hbw : Below w.heap.size w w1 := b0.trans (hb1.mono (by simp))
    refine bodyPost_ret (results_tmp_cell_row rfl _ _ _ _ _ _ rfl k1 Tryz.underlying47 rfl (by kernel_rfl)) rfl ?_
    exact ⟨A1, c1, none, 0, rfl, (ho1.below hb2).put3 HK.out (by decide) (by decide) _ _ _, own_nil _ _, k2 w (Nat.le_refl _) (hB1.trans (hb2.mono hB1.size)), k2 w (Nat.le_refl _) (hbw.trans (hb2.mono hbw.size))⟩
  · rw [if_neg hlt, if_neg hlt, if_neg hlt]
    by_cases hf : 8 ≤ qs.length
    · rw [if_pos hf, if_pos hf, if_pos hf]
      go_enter Tryz.func78, Tryz.ntmps78
      go_wp2_with (first
        | (go_at_call 73; refine (refRows_any (W := w) hn HL.out (HR.out.below b0) (hB.alloc hB.size _)).mono ?_; rintro e w1 ⟨A1, c1, rfl, ho1, hB1, hb1⟩)
        | (go_at_call 69; refine (bad_any w1 3).mono ?_; rintro e w2 ⟨rfl, hb2⟩; unfold resV; have HK := Lib.hid (((Blk.new w 47 zeroR).below hb1).below hb2); obtain ⟨x0, x1, x2, f0, f1, f2⟩ := three HK.out)
        | fail)
      obtain ⟨k1, k2, k3⟩ := put3 HK.out (.int .i64 3) (.slice none 0 0) (.int .i64 0)
      have hbw : Below w.heap.size w w1 := b0.trans (hb1.mono (by simp))
      refine bodyPost_ret (results_tmp_cell_row rfl _ _ _ _ _ _ rfl k1 Tryz.underlying47 rfl (by kernel_rfl)) rfl ?_
      exact ⟨A1, c1, none, 0, rfl, (ho1.below hb2).put3 HK.out (by decide) (by decide) _ _ _, own_nil _ _, k2 w (Nat.le_refl _) (hB1.trans (hb2.mono hB1.size)), k2 w (Nat.le_refl _) (hbw.trans (hb2.mono hbw.size))⟩
    · rw [if_neg hf, if_neg hf, if_neg hf]
      go_enter Tryz.func78, Tryz.ntmps78
      go_wp2_with (first
        | (go_at_call 73; refine (refRows_any (W := w) hn HL.out (HR.out.below b0) (hB.alloc hB.size _)).mono ?_; rintro e w1 ⟨A1, c1, rfl, ho1, hB1, hb1⟩; have hbw : Below w.heap.size w w1 := b0.trans (hb1.mono (by simp)))
        | (go_at_call 72; refine (ownref_any (W := w) hn' (HR'.out.below hbw) hB1).mono ?_; rintro e w2 ⟨A2, c2, rfl, ho2, hB2, hb2⟩; obtain ⟨vs, hv1, hv2⟩ := ho1.below hb2)
        | (at_builtin
           refine wpList_append_cells (W := w) cellQ (.tmp 19) (.tmp 22) rfl (by rfl) rfl (ownsRow_below hv1 ((Below.refl _ _).alloc (Nat.le_refl _) _)) rfl (Rd.oneV _ _ _) (by intro u hu; simp at hu; subst hu; rfl) (by omega) (by omega) (hB2.alloc hB2.size _) ?_
           intro A3 c3 w3 hown3 hB3 hg3
           have b1 : Below w2.heap.size w2 (w2.alloc (.cells #[.slice A2 v.length c2] 26)) := (Below.refl _ _).alloc (Nat.le_refl _) _
           have HQ : Hid (OwnQ w w3 A3 (qs.length + 1) c3 (qs ++ [v])) := Lib.hid ⟨vs ++ [.slice A2 v.length c2], hown3, ((hv2.snoc ho2).below b1).grown (ownsRow_below hv1 b1) hg3⟩
           have hbk : Blk w3 w.heap.size 47 zeroR := by
             have h1 := (((Blk.new w 47 zeroR).below hb1).below hb2).alloc (.cells #[.slice A2 v.length c2] 26)
             refine h1.grown hg3 ?_
             rcases own_blk (ownsRow_below hv1 b1) with ⟨q1, _, _⟩ | ⟨g', cur', q1, _, hk'⟩
             · rw [q1]; intro h0; cases h0
             · rw [q1]; intro h0
               have h3 : w.heap.size = g' := by simpa [Value.ownBlock] using h0
               exact Blk.apart h1 hk' (by decide) h3
           have HK := Lib.hid hbk
           obtain ⟨x0, x1, x2, f0, f1, f2⟩ := three HK.out
           have HB3 := Lib.hid hB3
           clear hown3 hbk hB3)
        | fail)
      obtain ⟨k1, k2, k3⟩ := put3 HK.out (.int .i64 0) (.slice none 0 0) (.int .i64 ((qs.length : Int) + 1))
      refine bodyPost_ret (results_tmp_cell_row rfl _ _ _ _ _ _ rfl k1 Tryz.underlying47 rfl (by kernel_rfl)) rfl ?_
      have e : (qs ++ [v]).length = qs.length + 1 := by simp
      have h3 := k2 w (Nat.le_refl _) HB3.out
      exact ⟨A3, c3, none, 0, by rw [e]; rfl, by rw [e]; exact HQ.out.put3 HK.out (by decide) (by decide) _ _ _, own_nil _ _, h3, h3⟩
theorem refPush_any {W w : World} {qs : List (List Nat)} {v : List Nat} {A A' : Option Addr} {n c n' c' B B' : Nat} (hn : n ≤ 100000) (hL : LimL qs) (hn' : Lim 0 n') (hr : RdQ w B A n qs) (hr' : Rd w B' A' n' (bv v)) (hB : Below W.heap.size W w) :
    Calls Tryz.prog 78 #[.slice A n c, .slice A' n' c'] w (GotQR W w (pushS qs v) (pushE qs v) [] (pushN qs v)) :=
  (refPush_raw hn hL hn' hr hr').mono fun e w' h => GotQR.of hB h
set_option maxRecDepth 100000 in
theorem refPop_raw {w : World} {qs : List (List Nat)} {A : Option Addr} {n c B : Nat} (hn : n ≤ 100000) (hc : n ≤ c) (hL : LimL qs) (hr : RdQ w B A n qs) :
    Calls Tryz.prog 79 #[.slice A n c] w (GotQR w w qs.tail (popE qs) (popV qs) 0) := by
  have hB := Below.refl w.heap.size w
  have HL := Lib.hid hL
  have HR := Lib.hid hr.fit
  obtain rfl := hr.length
  have b0 : Below w.heap.size w (w.alloc (.cells zeroR 47)) := (Below.refl _ _).alloc (Nat.le_refl _) _
  clear hr hL
  unfold popE popV
  rcases Nat.eq_zero_or_pos qs.length with h0 | h0
  · have hq : qs = [] := List.eq_nil_of_length_eq_zero h0
    subst hq
    rw [if_pos h0]
    clear h0
    go_enter Tryz.func79, Tryz.ntmps79
    go_wp2_with (first
      | (go_at_call 69; refine (bad_any _ 4).mono ?_; rintro e w2 ⟨rfl, hb2⟩; unfold resV; have HK := Lib.hid ((Blk.new w 47 zeroR).below hb2); obtain ⟨x0, x1, x2, f0, f1, f2⟩ := three HK.out)
      | fail)
    obtain ⟨k1, k2, k3⟩ := put3 HK.out (.int .i64 4) (.slice none 0 0) (.int .i64 0)
    refine bodyPost_ret (results_tmp_cell_row rfl _ _ _ _ _ _ rfl k1 Tryz.underlying47 rfl (by kernel_rfl)) rfl ?_
    have h3 := k2 w (Nat.le_refl _) (b0.trans (hb2.mono (by simp)))
    exact ⟨none, 0, none, 0, rfl, OwnQ.nil _ _, own_nil _ _, h3, h3⟩
  · have hq0 : ¬ qs.length = 0 := by omega
    rw [if_neg hq0]
    have hne : ((qs.length : Int) == 0) = false := by rw [beq_eq_false_iff_ne]; omega
    obtain ⟨b, o, l, A1, c1, rfl, hl, hcell, hrd⟩ := HR.out.at h0
    have hll : Lim 0 l.length := HL.out l (List.mem_of_getElem? hl)
    have hv : qs.head?.getD [] = l := by rw [List.head?_eq_getElem?, hl]; rfl
    rw [hv]
    have HRD := Lib.hid hrd
    have HL1 : Hid (LimL qs.tail) := Lib.hid (fun x hx => HL.out x (List.mem_of_mem_tail hx))
    have HR1 : Hid (RdQ w w.heap.size (cutAt (some ⟨b, o, none⟩) c 1) (qs.length - 1) qs.tail) := Lib.hid (by have := HR.out.drop (k := 1) (c := c) (by omega) hc; rwa [List.drop_one] at this)
    have htl : qs.tail.length = qs.length - 1 := by simp
    obtain ⟨i0, hi0, _, hi1, _⟩ := info_parts cellQ.info
    have esl : ∀ w : World, (Instr.slice 27 (.slice (some ⟨b, o, none⟩) qs.length c) (some (.int .i64 1)) none none).run Tryz.prog w = .ok (.slice (cutAt (some ⟨b, o, none⟩) c 1) (qs.length - 1) (c - 1)) w :=
      fun w => run_slice_from (P := Tryz.prog) Tryz.underlying27 hi0 hi1 (some ⟨b, o, none⟩) qs.length c 1 (by omega) w
    go_enter Tryz.func79, Tryz.ntmps79
    rw [Nat.add_zero] at hcell
    have hlt := World.block_lt_of_cell? w _ hcell
    have hcl : ∀ w' : World, Below w.heap.size w w' → w'.cell? ⟨b, o, none⟩ = some (.slice A1 l.length c1) := fun w' h => (h.cell (p := ⟨b, o, none⟩) hlt).trans hcell
    have HC := Lib.hid hcl
    have HKb := Lib.hid (Blk.new w 47 zeroR)
    have hc0 := hcl _ b0
    clear hcl hcell hrd hv hlt hi0 hi1
    go_upto_region 3 with fail
    go_region_with (first
      | (go_at_call 73; refine (refRows_any (W := w) (n := qs.length - 1) (by omega) HL1.out (by first | exact HR1.out.below b0.drew | exact HR1.out.below hBO) (by first | exact b0.drew | exact hBO)).mono ?_; rintro e wR ⟨AR, cR, rfl, hoR, hBR, hbR⟩
         have HKb := Lib.hid (show Blk wR w.heap.size 47 zeroR by first | exact HKb.out.drew.below hbR | exact HKb.out.below hbR)
         have hcR := HC.out _ hBR
         obtain ⟨x0, x1, x2, f0, f1, f2⟩ := three HKb.out)
      | (go_at_call 72; refine (ownref_any (W := w) hll (by first | exact HRD.out.below b0.drew | exact HRD.out.below hBR) (by first | exact b0.drew | exact hBR)).mono ?_; rintro e wO ⟨AO, cO, rfl, hoO, hBO, hbO⟩
         have HKb := Lib.hid (show Blk wO w.heap.size 47 zeroR by first | exact HKb.out.drew.below hbO | exact HKb.out.below hbO)
         have hcO := HC.out _ hBO
         obtain ⟨x0, x1, x2, f0, f1, f2⟩ := three HKb.out))
    all_goals go_wp2
    all_goals
      obtain ⟨k1, k2, k3⟩ := put3 HKb.out (.int .i64 0) (.slice AO l.length cO) (.int .i64 0)
      refine bodyPost_ret (results_tmp_cell_row rfl _ _ _ _ _ _ rfl k1 Tryz.underlying47 rfl (by kernel_rfl)) rfl ?_
      have h3 := k2 w (Nat.le_refl _) hBO
      exact ⟨AR, cR, AO, cO, by rw [htl]; rfl, (hoR.below hbO).put3 HKb.out (by decide) (by decide) _ _ _, k3 _ _ _ _ _ _ hoO (by decide), h3, h3⟩
theorem refPop_any {W w : World} {qs : List (List Nat)} {A : Option Addr} {n c B : Nat} (hn : n ≤ 100000) (hc : n ≤ c) (hL : LimL qs) (hr : RdQ w B A n qs) (hB : Below W.heap.size W w) :
    Calls Tryz.prog 79 #[.slice A n c] w (GotQR W w qs.tail (popE qs) (popV qs) 0) :=
  (refPop_raw hn hc hL hr).mono fun e w' h => GotQR.of hB h
end Go.Proofs.YtaknfmionkkdjaaGreat

namespace Go.Proofs.YtaknfmionkkdjaaGreat
open Go.RowKit
set_option linter.unusedVariables false
theorem Blk.far {w w' : World} {g n c base' size' : Nat} {t e' : TypeId} {cs : Array Value} {A' : Option Addr} {xs' : List Value} (h : Blk w g t cs) (ho : w.ownsRow base' e' size' (.slice A' n c) n xs') (hne : t ≠ e') (hg : w.grownBy w' (Value.slice A' n c).ownBlock) : Blk w' g t cs := by
  refine h.grown hg ?_
  rcases own_blk ho with ⟨q1, _, _⟩ | ⟨g', cur', q1, _, hk'⟩
  · rw [q1]; intro h0; cases h0
  · rw [q1]; intro h0
    have h3 : g = g' := by simpa [Value.ownBlock] using h0
    exact Blk.apart h hk' hne h3
set_option maxRecDepth 100000 in
theorem copied_raw (qs : List (List Nat)) (A : Option Addr) (n c B : Nat) (hn : n ≤ 100000) (hL : LimL qs) (w : World) (hr : RdQ w B A n qs) :
    Calls Tryz.prog 116 #[.slice A n c] w (GotQ w w qs) := by
  have HL := Lib.hid hL
  have HR := Lib.hid hr.fit
  have hlen := hr.length
  obtain ⟨i0, hi0, hi1, hi2, hi3⟩ := info_parts cellQ.info
  clear hr hL
  go_enter Tryz.func116, Tryz.ntmps116
  go_wp2_with (first
    | (at_make
       refine wpList_make_own w rfl _ _ 27 rfl w.heap.size 26 i0 _ 1 Tryz.underlying27 hi0 hi1 hi2 _ _ _ (n + 1) rfl rfl (by push_cast; rfl) (by rw [hi3]; omega) (by unfold maxLen; omega) (Nat.le_refl _) ?_
       intro w0 hown0 hg0)
    | fail)
  go_loopw [3, 12] (fun s3 s12 wr => ∃ (k c' : Nat) (A' : Option Addr), k ≤ n ∧ s12 = .int .i64 (k : Int) ∧ s3 = .slice A' k c' ∧ Hid (OwnQ w wr A' k c' (qs.take k)) ∧ Hid (Below w.heap.size w wr)) (fun _ s12 _ => n - (intOf s12).toNat)
  case atStart => exact ⟨0, _, _, Nat.zero_le _, rfl, rfl, Lib.hid ⟨[], hown0, by simpa using Owns.nil w w0⟩, Lib.hid ((Below.refl _ _).grown hg0 (Nat.le_refl _) (fun k hk => by cases hk))⟩
  case round =>
    obtain ⟨k, c', A', hk, rfl, rfl, HO, HB⟩ := hrel
    by_cases hlt : k < n
    · obtain ⟨b, o, l, A1, c1, rfl, hl, hcell, hrd⟩ := (HR.out.below HB.out).at hlt
      have hll : Lim 0 l.length := HL.out l (List.mem_of_getElem? hl)
      have HRD := Lib.hid hrd
      have HLL := Lib.hid hl
      clear hrd hl
      go_wp2_with (first
        | (go_at_call 64; refine (clone_any (W := w) hll HRD.out HB.out).mono ?_; rintro e w1 ⟨A2, c2, rfl, ho2, hB2, hb2⟩; obtain ⟨vs, hv1, hv2⟩ := HO.out.below hb2)
        | (at_builtin
           refine wpList_append_cells (W := w) cellQ (.tmp 16) (.tmp 19) rfl (by rfl) rfl (ownsRow_below hv1 ((Below.refl _ _).alloc (Nat.le_refl _) _)) rfl (Rd.oneV _ _ _) (by intro u hu; simp at hu; subst hu; rfl) (by omega) (by omega) (hB2.alloc hB2.size _) ?_
           intro A3 c3 w3 hown3 hB3 hg3)
        | fail)
      go_roundw
      case rel =>
        refine ⟨k + 1, c3, A3, by omega, by go_num, rfl, Lib.hid ?_, Lib.hid hB3⟩
        have b1 : Below w1.heap.size w1 (w1.alloc (.cells #[.slice A2 l.length c2] 26)) := (Below.refl _ _).alloc (Nat.le_refl _) _
        refine ⟨vs ++ [.slice A2 l.length c2], hown3, ?_⟩
        rw [List.take_add_one, HLL.out]
        exact ((hv2.snoc ho2).below b1).grown (ownsRow_below hv1 b1) hg3
      case measure => simp only [intOf]; omega
    · obtain rfl : k = n := by omega
      go_wp2_with fail
      go_ret
      have HO2 := HO.out
      rw [List.take_of_length_le (by omega)] at HO2
      subst hlen
      exact ⟨A', c', rfl, HO2, HB.out, HB.out⟩
theorem copied_any {W w : World} {qs : List (List Nat)} {A : Option Addr} {n c B : Nat} (hn : n ≤ 100000) (hL : LimL qs) (hr : RdQ w B A n qs) (hB : Below W.heap.size W w) :
    Calls Tryz.prog 116 #[.slice A n c] w (GotQ W w qs) :=
  (copied_raw qs A n c B hn hL w hr).mono fun e w' h => GotQ.of hB h
set_option maxRecDepth 100000 in
theorem push_raw {w : World} {qs : List (List Nat)} {v : List Nat} {A A' : Option Addr} {n c n' c' B B' : Nat} (hn : n ≤ 100000) (hL : LimL qs) (hn' : Lim 0 n') (hr : RdQ w B A n qs) (hr' : Rd w B' A' n' (bv v)) :
    Calls Tryz.prog 100 #[.slice A n c, .slice A' n' c'] w (GotQR w w (pushS qs v) (pushE qs v) [] (pushN qs v)) := by
  have hB := Below.refl w.heap.size w
  have HL := Lib.hid hL
  have HR := Lib.hid hr.fit
  have HR' := Lib.hid hr'.fit
  obtain rfl := hr.length
  obtain rfl := hr'.length
  have b0 : Below w.heap.size w (w.alloc (.cells zeroR 47)) := (Below.refl _ _).alloc (Nat.le_refl _) _
  clear hr hr' hL
  unfold pushS pushE pushN
  by_cases hlt : 16 < v.length
  · rw [if_pos hlt, if_pos hlt, if_pos hlt]
    go_enter Tryz.func100, Tryz.ntmps100
    go_wp2_with (first
      | (go_at_call 116; refine (copied_any (W := w) hn HL.out (HR.out.below b0) (hB.alloc hB.size _)).mono ?_; rintro e w1 ⟨A1, c1, rfl, ho1, hB1, hb1⟩; have HK := Lib.hid ((Blk.new w 47 zeroR).below hb1); obtain ⟨x0, x1, x2, f0, f1, f2⟩ := three HK.out)
      | fail)
    obtain ⟨k1, k2, k3⟩ := put3 HK.out (.int .i64 1) (.slice none 0 0) (.int .i64 0)
    have hbw : Below w.heap.size w w1 := b0.trans (hb1.mono (by simp))
    refine bodyPost_ret (results_tmp_cell_row rfl _ _ _ _ _ _ rfl k1 Tryz.underlying47 rfl (by kernel_rfl)) rfl ?_
    exact ⟨A1, c1, none, 0, rfl, ho1.put3 HK.out (by decide) (by decide) _ _ _, own_nil _ _, k2 w (Nat.le_refl _) hB1, k2 w (Nat.le_refl _) hbw⟩
  · rw [if_neg hlt, if_neg hlt, if_neg hlt]
    by_cases hf : 8 ≤ qs.length
    · rw [if_pos hf, if_pos hf, if_pos hf]
      go_enter Tryz.func100, Tryz.ntmps100
      go_wp2_with (first
        | (go_at_call 116; refine (copied_any (W := w) hn HL.out (HR.out.below b0) (hB.alloc hB.size _)).mono ?_; rintro e w1 ⟨A1, c1, rfl, ho1, hB1, hb1⟩; have HK := Lib.hid ((Blk.new w 47 zeroR).below hb1); obtain ⟨x0, x1, x2, f0, f1, f2⟩ := three HK.out)
        | fail)
      obtain ⟨k1, k2, k3⟩ := put3 HK.out (.int .i64 3) (.slice none 0 0) (.int .i64 0)
      have hbw : Below w.heap.size w w1 := b0.trans (hb1.mono (by simp))
      refine bodyPost_ret (results_tmp_cell_row rfl _ _ _ _ _ _ rfl k1 Tryz.underlying47 rfl (by kernel_rfl)) rfl ?_
      exact ⟨A1, c1, none, 0, rfl, ho1.put3 HK.out (by decide) (by decide) _ _ _, own_nil _ _, k2 w (Nat.le_refl _) hB1, k2 w (Nat.le_refl _) hbw⟩
    · rw [if_neg hf, if_neg hf, if_neg hf]
      go_enter Tryz.func100, Tryz.ntmps100
      go_wp2_with (first
        | (go_at_call 116; refine (copied_any (W := w) hn HL.out (HR.out.below b0) (hB.alloc hB.size _)).mono ?_; rintro e w1 ⟨A1, c1, rfl, ho1, hB1, hb1⟩; have hbw : Below w.heap.size w w1 := b0.trans (hb1.mono (by simp)))
        | (go_at_call 64; refine (clone_any (W := w) hn' (HR'.out.below hbw) hB1).mono ?_; rintro e w2 ⟨A2, c2, rfl, ho2, hB2, hb2⟩; obtain ⟨vs, hv1, hv2⟩ := ho1.below hb2)
        | (at_builtin
           refine wpList_append_cells (W := w) cellQ (.tmp 19) (.tmp 22) rfl (by rfl) rfl (ownsRow_below hv1 ((Below.refl _ _).alloc (Nat.le_refl _) _)) rfl (Rd.oneV _ _ _) (by intro u hu; simp at hu; subst hu; rfl) (by omega) (by omega) (hB2.alloc hB2.size _) ?_
           intro A3 c3 w3 hown3 hB3 hg3
           have b1 : Below w2.heap.size w2 (w2.alloc (.cells #[.slice A2 v.length c2] 26)) := (Below.refl _ _).alloc (Nat.le_refl _) _
           have HQ : Hid (OwnQ w w3 A3 (qs.length + 1) c3 (qs ++ [v])) := Lib.hid ⟨vs ++ [.slice A2 v.length c2], hown3, ((hv2.snoc ho2).below b1).grown (ownsRow_below hv1 b1) hg3⟩
           have HK := Lib.hid (((((Blk.new w 47 zeroR).below hb1).below hb2).alloc (.cells #[.slice A2 v.length c2] 26)).far (ownsRow_below hv1 b1) (by decide) hg3)
           obtain ⟨x0, x1, x2, f0, f1, f2⟩ := three HK.out
           have HB3 := Lib.hid hB3
           clear hown3 hB3)
        | fail)
      obtain ⟨k1, k2, k3⟩ := put3 HK.out (.int .i64 0) (.slice none 0 0) (.int .i64 ((qs.length : Int) + 1))
      refine bodyPost_ret (results_tmp_cell_row rfl _ _ _ _ _ _ rfl k1 Tryz.underlying47 rfl (by kernel_rfl)) rfl ?_
      have e : (qs ++ [v]).length = qs.length + 1 := by simp
      have h3 := k2 w (Nat.le_refl _) HB3.out
      exact ⟨A3, c3, none, 0, by rw [e]; rfl, by rw [e]; exact HQ.out.put3 HK.out (by decide) (by decide) _ _ _, own_nil _ _, h3, h3⟩
theorem push_any {W w : World} {qs : List (List Nat)} {v : List Nat} {A A' : Option Addr} {n c n' c' B B' : Nat} (hn : n ≤ 100000) (hL : LimL qs) (hn' : Lim 0 n') (hr : RdQ w B A n qs) (hr' : Rd w B' A' n' (bv v)) (hB : Below W.heap.size W w) :
    Calls Tryz.prog 100 #[.slice A n c, .slice A' n' c'] w (GotQR W w (pushS qs v) (pushE qs v) [] (pushN qs v)) :=
  (push_raw hn hL hn' hr hr').mono fun e w' h => GotQR.of hB h
set_option maxHeartbeats 2000000 in
set_option maxRecDepth 100000 in
theorem pop_raw {w : World} {qs : List (List Nat)} {A : Option Addr} {n c B : Nat} (hn : n ≤ 100000) (hc : n ≤ c) (hL : LimL qs) (hr : RdQ w B A n qs) :
    Calls Tryz.prog 101 #[.slice A n c] w (GotQR w w qs.tail (popE qs) (popV qs) 0) := by
  have hB := Below.refl w.heap.size w
  have HL := Lib.hid hL
  have HR := Lib.hid hr.fit
  obtain rfl := hr.length
  have b0 : Below w.heap.size w (w.alloc (.cells zeroR 47)) := (Below.refl _ _).alloc (Nat.le_refl _) _
  clear hr hL
  unfold popE popV
  rcases Nat.eq_zero_or_pos qs.length with h0 | h0
  · have hq : qs = [] := List.eq_nil_of_length_eq_zero h0
    subst hq
    rw [if_pos h0]
    clear h0
    go_enter Tryz.func101, Tryz.ntmps101
    go_wp2_with fail
    refine bodyPost_ret (results_tmp_cell_row rfl _ _ _ _ _ _ rfl (Blk.new w 47 #[.int .i64 4, .slice none 0 0, .int .i64 0]) Tryz.underlying47 rfl (by kernel_rfl)) rfl ?_
    have h3 : Below w.heap.size w (w.alloc (.cells #[.int .i64 4, .slice none 0 0, .int .i64 0] 47)) := (Below.refl _ _).alloc (Nat.le_refl _) _
    exact ⟨none, 0, none, 0, rfl, OwnQ.nil _ _, own_nil _ _, h3, h3⟩
  · have hq0 : ¬ qs.length = 0 := by omega
    rw [if_neg hq0]
    have hne : ((qs.length : Int) == 0) = false := by rw [beq_eq_false_iff_ne]; omega
    obtain ⟨b, o, l, A1, c1, rfl, hl, hcell, hrd⟩ := HR.out.at h0
    have hll : Lim 0 l.length := HL.out l (List.mem_of_getElem? hl)
    have hv : qs.head?.getD [] = l := by rw [List.head?_eq_getElem?, hl]; rfl
    rw [hv]
    have HRD := Lib.hid hrd
    have HL1 : Hid (LimL qs.tail) := Lib.hid (fun x hx => HL.out x (List.mem_of_mem_tail hx))
    have HR1 : Hid (RdQ w w.heap.size (cutAt (some ⟨b, o, none⟩) c 1) (qs.length - 1) qs.tail) := Lib.hid (by have := HR.out.drop (k := 1) (c := c) (by omega) hc; rwa [List.drop_one] at this)
    have htl : qs.tail.length = qs.length - 1 := by simp
    obtain ⟨i0, hi0, _, hi1, _⟩ := info_parts cellQ.info
    have esl : ∀ w : World, (Instr.slice 27 (.slice (some ⟨b, o, none⟩) qs.length c) (some (.int .i64 1)) none none).run Tryz.prog w = .ok (.slice (cutAt (some ⟨b, o, none⟩) c 1) (qs.length - 1) (c - 1)) w :=
      fun w => run_slice_from (P := Tryz.prog) Tryz.underlying27 hi0 hi1 (some ⟨b, o, none⟩) qs.length c 1 (by omega) w
    go_enter Tryz.func101, Tryz.ntmps101
    rw [Nat.add_zero] at hcell
    have hlt := World.block_lt_of_cell? w _ hcell
    have hcl : ∀ w' : World, Below w.heap.size w w' → w'.cell? ⟨b, o, none⟩ = some (.slice A1 l.length c1) := fun w' h => (h.cell (p := ⟨b, o, none⟩) hlt).trans hcell
    have HC := Lib.hid hcl
    have HKb := Lib.hid (Blk.new w 47 zeroR)
    have hc0 := hcl _ b0
    clear hcl hcell hrd hv hlt hi0 hi1
    go_upto_region 3 with fail
    go_region_with (first
      | (go_at_call 116; refine (copied_any (W := w) (n := qs.length - 1) (by omega) HL1.out (by first | exact HR1.out.below b0.drew | exact HR1.out.below hBO) (by first | exact b0.drew | exact hBO)).mono ?_; rintro e wR ⟨AR, cR, rfl, hoR, hBR, hbR⟩
         have HKb := Lib.hid (show Blk wR w.heap.size 47 zeroR by first | exact HKb.out.drew.below hbR | exact HKb.out.below hbR)
         have hcR := HC.out _ hBR
         obtain ⟨x0, x1, x2, f0, f1, f2⟩ := three HKb.out)
      | (go_at_call 64; refine (clone_any (W := w) hll (by first | exact HRD.out.below b0.drew | exact HRD.out.below hBR) (by first | exact b0.drew | exact hBR)).mono ?_; rintro e wO ⟨AO, cO, rfl, hoO, hBO, hbO⟩
         have HKb := Lib.hid (show Blk wO w.heap.size 47 zeroR by first | exact HKb.out.drew.below hbO | exact HKb.out.below hbO)
         have hcO := HC.out _ hBO
         obtain ⟨x0, x1, x2, f0, f1, f2⟩ := three HKb.out))
    all_goals go_wp2
    all_goals
      obtain ⟨k1, k2, k3⟩ := put3 HKb.out (.int .i64 0) (.slice AO l.length cO) (.int .i64 0)
      refine bodyPost_ret (results_tmp_cell_row rfl _ _ _ _ _ _ rfl k1 Tryz.underlying47 rfl (by kernel_rfl)) rfl ?_
      have h3 := k2 w (Nat.le_refl _) hBO
      exact ⟨AR, cR, AO, cO, by rw [htl]; rfl, (hoR.below hbO).put3 HKb.out (by decide) (by decide) _ _ _, k3 _ _ _ _ _ _ hoO (by decide), h3, h3⟩
theorem pop_any {W w : World} {qs : List (List Nat)} {A : Option Addr} {n c B : Nat} (hn : n ≤ 100000) (hc : n ≤ c) (hL : LimL qs) (hr : RdQ w B A n qs) (hB : Below W.heap.size W w) :
    Calls Tryz.prog 101 #[.slice A n c] w (GotQR W w qs.tail (popE qs) (popV qs) 0) :=
  (pop_raw hn hc hL hr).mono fun e w' h => GotQR.of hB h
end Go.Proofs.YtaknfmionkkdjaaGreat

