/- BookKit BookCode1 BookCode2 BookCode3 -/
import Derived.Test.YtaknfmionkkdjaaGreatFO08
import Derived.Test.YtaknfmionkkdjaaGreatFO39
import Derived.Test.YtaknfmionkkdjaaGreatFO41
import Derived.Deep.CutBlock
import Derived.Deep.DeepCutAuto
import Derived.Deep.MidRow
import Derived.Deep.RegionWith
import Derived.OwnWalk
import Derived.WalkLawsBesides
import Derived.WalkSpells
import Derived.Laws.Rows
namespace Go.Proofs.YtaknfmionkkdjaaGreat
open Go.RowKit
set_option linter.unusedVariables false
/-- what a window knows of what stands in it -/
theorem winAt_mem {fr : Nat} {ss : List (Option VE)} {i : Int} {v : VE} (h : winAt fr ss i = some v) : some v ∈ ss := by
  unfold winAt at h
  split at h
  · exact List.mem_of_getElem? (Wd.join_some.1 h)
  · cases h
theorem winAt_laid (fr : Nat) (ss : List (Option VE)) (k : Nat) (v : VE) (i : Int) : winAt fr (Wd.laid ss k v) i = if i = (fr : Int) + 1 + (k : Int) then some v else winAt fr ss i := by
  unfold winAt
  by_cases hi : (fr : Int) < i
  · rw [if_pos hi, if_pos hi, Wd.laid_get]
    by_cases h : i = (fr : Int) + 1 + (k : Int)
    · rw [if_pos h, if_pos (by omega)]
    · rw [if_neg h, if_neg (by omega)]
  · rw [if_neg hi, if_neg hi, if_neg (by omega)]
theorem winAt_drop (fr : Nat) (ss : List (Option VE)) (k : Nat) (i : Int) : winAt (fr + k) (ss.drop k) i = if i ≤ (fr : Int) + (k : Int) then none else winAt fr ss i := by
  unfold winAt
  by_cases hi : ((fr + k : Nat) : Int) < i
  · rw [if_pos hi, if_neg (by omega), if_pos (by omega), List.getElem?_drop]
    congr 2
    omega
  · rw [if_neg hi, if_pos (by omega)]
theorem winAt_far {fr : Nat} {ss : List (Option VE)} {i : Int} (h : ((fr + ss.length : Nat) : Int) < i) : winAt fr ss i = none := by
  unfold winAt
  split
  · rw [List.getElem?_eq_none (by omega)]; rfl
  · rfl
theorem winAt_low {fr : Nat} {ss : List (Option VE)} {i : Int} (h : i ≤ (fr : Int)) : winAt fr ss i = none := if_neg (by omega)
theorem winAt_k (fr : Nat) (ss : List (Option VE)) (k : Nat) : winAt fr ss ((fr : Int) + 1 + (k : Int)) = ss[k]?.join := by
  unfold winAt
  rw [if_pos (by omega)]
  congr 2
  omega
theorem win_whole (fr : Nat) (ss : List (Option VE)) (f : Int → Option En) (hf : ∀ i, f i = (winAt fr ss i).map (·.2)) : Bk.Whole f (fr : Int) ((fr + Wd.lead ss : Nat) : Int) := by
  refine ⟨by omega, fun i h1 h2 => ?_, ?_⟩
  · obtain ⟨k, rfl⟩ : ∃ k : Nat, i = (fr : Int) + 1 + (k : Int) := ⟨(i - fr - 1).toNat, by omega⟩
    obtain ⟨v, hv⟩ := Wd.lead_at (ss := ss) (k := k) (by omega)
    rw [hf, winAt_k, hv]; rfl
  · rw [hf, show (((fr + Wd.lead ss : Nat) : Int) + 1) = (fr : Int) + 1 + (Wd.lead ss : Int) by omega, winAt_k]
    cases h : ss[Wd.lead ss]?.join with
    | none => rfl
    | some v => exact absurd (Wd.join_some.1 h) Wd.lead_stop
/-- a book in memory -/
structure BkM (w : World) (b : Nat) (aM : MA) (g fr wh : Nat) (A : Option Addr) (n c : Nat) (ss : List (Option VE)) (k : Bk) : Prop where
  blk : Blk w b 80 #[.slice aM.o.A0 k.m.o.reg.length aM.o.c0, .slice aM.o.A1 k.m.o.q.length aM.o.c1, .slice aM.o.A2 k.m.o.lk.length aM.o.c2, .slice aM.o.A3 k.m.o.mp.length aM.o.c3, .slice aM.At k.m.t.length aM.ct, .pointer (some ⟨g, 0, none⟩)]
  mac : ∃ W, OwnM W w aM k.m
  win : WinE w g fr wh A n c ss
  lead : wh = fr + Wd.lead ss
  few : n ≤ Wd.lead ss + 64
  pos : k.pos = (fr : Int)
  whole : k.wh = (wh : Int)
  f : ∀ i, k.f i = (winAt fr ss i).map (·.2)
  mok : k.m.Ok
  fits : ∀ a e, some (a, e) ∈ ss → e.c.Fits
  p1 : fr ≤ 1099511627776
/-- its blocks -/
def bkS (b g : Nat) (A : Option Addr) : Nat → Prop := fun q => q = b ∨ winS g A q
def BkAt (w : World) (S : Nat → Prop) (b : Nat) (k : Bk) : Prop := ∃ aM g fr wh A n c ss, BkM w b aM g fr wh A n c ss k ∧ S = bkS b g A
section
variable {w w' : World} {b g fr wh n c : Nat} {aM : MA} {A : Option Addr} {ss : List (Option VE)} {k : Bk}
theorem BkM.ok (h : BkM w b aM g fr wh A n c ss k) : k.Ok := by
  have hw := win_whole fr ss k.f h.f
  rw [← h.lead, ← h.whole, ← h.pos] at hw
  have hl := h.win.len
  refine ⟨h.mok, by rw [h.pos]; omega, by have := h.p1; rw [h.pos]; omega, hw, fun i hi => ?_, fun i hi => ?_, fun i e he => ?_⟩
  · rw [h.f, winAt_low (by rw [h.pos] at hi; exact hi)]; rfl
  · rw [h.f, winAt_far (by have := h.few; have := h.lead; rw [h.whole] at hi; omega)]; rfl
  · rw [h.f] at he
    cases hv : winAt fr ss i with
    | none => rw [hv] at he; cases he
    | some v =>
      rw [hv] at he
      obtain ⟨a, e'⟩ := v
      injection he with he
      subst he
      exact h.fits a _ (winAt_mem hv)
theorem BkM.of (h : BkM w b aM g fr wh A n c ss k) : Of (bkS b g A) TB w := by
  rintro q (rfl | hq) hlt
  · exact ⟨_, _, _, h.blk, by simp⟩
  · exact h.win.of q hq hlt
theorem BkM.below (h : BkM w b aM g fr wh A n c ss k) (hb : Below w.heap.size w w') : BkM w' b aM g fr wh A n c ss k := by
  obtain ⟨W, hW⟩ := h.mac
  exact ⟨h.blk.below hb, ⟨W, hW.below hb⟩, h.win.below hb, h.lead, h.few, h.pos, h.whole, h.f, h.mok, h.fits, h.p1⟩
theorem BkM.keeps {S : Nat → Prop} {T : List TypeId} (h : BkM w b aM g fr wh A n c ss k) (hk : Keeps S w w') (ho : Of S T w) (h1 : 5 ∉ T) (h2 : 26 ∉ T) (h3 : 3 ∉ T) (h4 : 55 ∉ T) (h5 : 57 ∉ T) (hn : ∀ q, bkS b g A q → ¬ S q) : BkM w' b aM g fr wh A n c ss k := by
  obtain ⟨W, hW⟩ := h.mac
  exact ⟨h.blk.keeps hk (hn _ (.inl rfl)), ⟨W, hW.keeps hk ho h1 h2 h3 h4 h5⟩, h.win.keeps hk ho h1 (fun q hq => hn q (.inr hq)), h.lead, h.few, h.pos, h.whole, h.f, h.mok, h.fits, h.p1⟩
/-- the window is turned, the book's own block is not -/
theorem BkM.inWin {fr' wh' n' c' : Nat} {A' : Option Addr} {ss' : List (Option VE)} {k' : Bk} (h : BkM w b aM g fr wh A n c ss k) (hw : WinE w' g fr' wh' A' n' c' ss') (ha : Adv (winS g A) w (winS g A') w')
    (hm : k'.m = k.m) (hl : wh' = fr' + Wd.lead ss') (hfew : n' ≤ Wd.lead ss' + 64) (hp : k'.pos = (fr' : Int)) (hwh : k'.wh = (wh' : Int)) (hf : ∀ i, k'.f i = (winAt fr' ss' i).map (·.2)) (hfit : ∀ a e, some (a, e) ∈ ss' → e.c.Fits) (h1 : fr' ≤ 1099511627776) :
    BkM w' b aM g fr' wh' A' n' c' ss' k' ∧ Adv (bkS b g A) w (bkS b g A') w' := by
  have hnb : ¬ winS g A b := by
    rintro (e | ⟨q, o, e, e2⟩)
    · exact h.blk.apart h.win.blk (by decide) e
    · subst e
      obtain ⟨cur, hgb⟩ := h.win.row.blkAt
      exact h.blk.apart hgb (by decide) e2
  obtain ⟨W, hW⟩ := h.mac
  refine ⟨⟨by rw [hm]; exact h.blk.keeps ha.keeps hnb, ⟨W, by rw [hm]; exact hW.keeps ha.keeps h.win.of (by decide) (by decide) (by decide) (by decide) (by decide)⟩, hw, hl, hfew, hp, hwh, hf, by rw [hm]; exact h.mok, hfit, h1⟩, ha.keeps.mono (fun q hq => .inr hq), ?_⟩
  rintro q (rfl | hq)
  · exact .inl (.inl rfl)
  · exact (ha.grow q hq).imp (fun h => .inr h) id
end
section
variable {w w' : World} {S S' : Nat → Prop} {b : Nat} {k : Bk}
theorem BkAt.below (h : BkAt w S b k) (hb : Below w.heap.size w w') : BkAt w' S b k := by
  obtain ⟨aM, g, fr, wh, A, n, c, ss, h1, h2⟩ := h
  exact ⟨aM, g, fr, wh, A, n, c, ss, h1.below hb, h2⟩
theorem BkAt.ok (h : BkAt w S b k) : k.Ok := by
  obtain ⟨aM, g, fr, wh, A, n, c, ss, h1, h2⟩ := h
  exact h1.ok
theorem BkAt.of (h : BkAt w S b k) : Of S TB w := by
  obtain ⟨aM, g, fr, wh, A, n, c, ss, h1, rfl⟩ := h
  exact h1.of
theorem BkAt.keeps {S0 : Nat → Prop} {T : List TypeId} (h : BkAt w S b k) (hk : Keeps S0 w w') (ho : Of S0 T w) (h1 : 5 ∉ T) (h2 : 26 ∉ T) (h3 : 3 ∉ T) (h4 : 55 ∉ T) (h5 : 57 ∉ T) (hn : ∀ q, S q → ¬ S0 q) : BkAt w' S b k := by
  obtain ⟨aM, g, fr, wh, A, n, c, ss, q1, rfl⟩ := h
  exact ⟨aM, g, fr, wh, A, n, c, ss, q1.keeps hk ho h1 h2 h3 h4 h5 hn, rfl⟩
end
/-- a book behind a call: what it is, what was turned -/
def GotBk (S : Nat → Prop) (w : World) (b : Nat) (k : Bk) (w' : World) : Prop := ∃ S', BkAt w' S' b k ∧ Adv S w S' w'
/-- an entry, or none, of the call's own -/
def GotE16 (w : World) (r : Option En) (en : Ending) (w' : World) : Prop := ∃ ca : CA, en = .returned (.tuple #[.agg (entC ca (r.getD En.zero)), .bool r.isSome]) ∧ OwnC w w' ca (r.getD En.zero).c ∧ Below w.heap.size w w'
theorem En.zero_fits : En.zero.c.Fits := ⟨⟨by simp [En.zero], by simp [En.zero]⟩, ⟨by simp [En.zero], by simp [En.zero]⟩, ⟨by simp [En.zero], by simp [En.zero]⟩⟩
theorem RdC.zero9 (w : World) (B : Nat) : RdC w B zeroCA En.zero.c := ⟨Rd.none_ _ _ _, Rd.none_ _ _ _, Rd.none_ _ _ _⟩
end Go.Proofs.YtaknfmionkkdjaaGreat

namespace Go.Proofs.YtaknfmionkkdjaaGreat
open Go.RowKit
set_option linter.unusedVariables false
section
variable (w : World) {b g fr wh n c : Nat} {aM : MA} {A : Option Addr} {ss : List (Option VE)} {k : Bk} (h : BkM w b aM g fr wh A n c ss k)
include h
theorem bkAtM : Calls Tryz.prog 26 #[.pointer (some ⟨b, 0, none⟩)] w fun e w' => e = .returned (.int .i64 (fr : Int)) ∧ w = w' := by
  have HC := Lib.hid (winFrom w h.win)
  have hc := h.blk.cell 5
  simp at hc
  clear h
  go_enter Tryz.func26, Tryz.ntmps26
  go_wp2_with fail
  refine HC.out.mono ?_
  rintro en w2 ⟨rfl, rfl⟩
  go_wp2
  go_ret
  exact ⟨rfl, rfl⟩
theorem bkWholeM : Calls Tryz.prog 27 #[.pointer (some ⟨b, 0, none⟩)] w fun e w' => e = .returned (.int .i64 (wh : Int)) ∧ w = w' := by
  have HC := Lib.hid (winWhole w h.win)
  have hc := h.blk.cell 5
  simp at hc
  clear h
  go_enter Tryz.func27, Tryz.ntmps27
  go_wp2_with fail
  refine HC.out.mono ?_
  rintro en w2 ⟨rfl, rfl⟩
  go_wp2
  go_ret
  exact ⟨rfl, rfl⟩
set_option maxHeartbeats 2000000 in
set_option maxRecDepth 100000 in
theorem bkMachineM : Calls Tryz.prog 16 #[.pointer (some ⟨b, 0, none⟩)] w fun e w' => ∃ a', e = .returned (machV a' k.m) ∧ OwnM w w' a' k.m ∧ Below w.heap.size w w' := by
  obtain ⟨W, hW⟩ := h.mac
  have HM := Lib.hid hW
  have HK := Lib.hid h.blk
  have HOK := Lib.hid h.mok
  clear h hW
  go_enter Tryz.func16, Tryz.ntmps16
  go_upto_region 1 with fail
  obtain ⟨g4, w1, hgE, hwE, hbE, hkE⟩ := alloced w #[.slice none 0 0, .slice none 0 0, .slice none 0 0, .slice none 0 0, .slice none 0 0] 33
  rw [hgE, hwE]
  have HBE := Lib.hid hbE
  have HKE := Lib.hid hkE
  have HG4 := Lib.hid hgE
  have HM1 := Lib.hid (HM.out.below hbE)
  have HK1 := Lib.hid (HK.out.below hbE)
  clear hgE hwE hbE hkE HM HK
  have HRG : Hid (w1.rangeAt b 0 [.slice aM.o.A0 k.m.o.reg.length aM.o.c0, .slice aM.o.A1 k.m.o.q.length aM.o.c1, .slice aM.o.A2 k.m.o.lk.length aM.o.c2, .slice aM.o.A3 k.m.o.mp.length aM.o.c3, .slice aM.At k.m.t.length aM.ct]) := Lib.hid (fun q v hv => by
    rw [HK1.out.cell]
    match q with
    | 0 => simpa using hv
    | 1 => simpa using hv
    | 2 => simpa using hv
    | 3 => simpa using hv
    | 4 => simpa using hv
    | q + 5 => simp at hv)
  have HC := Lib.hid (machineA_any (W := w) HOK.out HM1.out.rd HBE.out)
  unfold machV machC at HC
  go_wp2_with (first
    | (refine wpList_load_mid rfl 33 (.tmp 5) rfl b 0 rfl [.slice aM.o.A0 k.m.o.reg.length aM.o.c0, .slice aM.o.A1 k.m.o.q.length aM.o.c1, .slice aM.o.A2 k.m.o.lk.length aM.o.c2, .slice aM.o.A3 k.m.o.mp.length aM.o.c3, .slice aM.At k.m.t.length aM.ct] _ HRG.out Tryz.underlying33 rfl (by kernel_rfl) ?_)
    | (go_at_call 41; refine HC.out.mono ?_; rintro en w2 ⟨a', rfl, ho, hB, hb⟩
       have HO := Lib.hid ho
       have HB2 := Lib.hid hB
       have HK2 := Lib.hid (HKE.out.below hb)
       clear ho hB hb)
    | (refine wpList_store_row rfl 33 (.tmp 2) (.tmp 7) rfl g4 #[.slice a'.o.A0 k.m.o.reg.length a'.o.c0, .slice a'.o.A1 k.m.o.q.length a'.o.c1, .slice a'.o.A2 k.m.o.lk.length a'.o.c2, .slice a'.o.A3 k.m.o.mp.length a'.o.c3, .slice a'.At k.m.t.length a'.ct] rfl rfl 33 #[.slice none 0 0, .slice none 0 0, .slice none 0 0, .slice none 0 0, .slice none 0 0] HK2.out (by kernel_rfl) rfl (by kernel_rfl) ?_)
    | fail)
  refine bodyPost_ret (results_cell_row rfl _ _ _ _ _ _ _ rfl (Blk.row HK2.out (machC a' k.m)) Tryz.underlying33 rfl (by kernel_rfl)) rfl ?_
  have hsz : w.heap.size ≤ g4 := by have := HG4.out; omega
  exact ⟨a', rfl, HO.out.keeps (S := fun q => q = g4) (T := [33]) (Keeps.of_only (only_row w2 g4 _) rfl) (fun q hq _ => by subst hq; exact ⟨_, _, _, HK2.out, by simp⟩) (by decide) (by decide) (by decide) (by decide) (by decide), below_setRow HB2.out hsz _⟩
set_option maxHeartbeats 2000000 in
set_option maxRecDepth 100000 in
theorem bkGetM (i : Int) {r : Option En} (hr : k.f i = r) : Calls Tryz.prog 23 #[.pointer (some ⟨b, 0, none⟩), .int .i64 i] w (GotE16 w r) := by
  obtain ⟨rv, hrv⟩ : ∃ rv, winAt fr ss i = rv := ⟨_, rfl⟩
  have hfr : r = rv.map (·.2) := by rw [← hr, h.f, hrv]
  subst hfr
  clear hr
  have HW := Lib.hid h.win
  have HV := Lib.hid hrv
  have HF : Hid ((rv.getD (zeroCA, En.zero)).2.c.Fits) := Lib.hid (by
    cases rv with
    | none => exact En.zero_fits
    | some v => exact h.fits v.1 v.2 (winAt_mem hrv))
  have HR : Hid (∀ w', Below w.heap.size w w' → RdC w' w'.heap.size (rv.getD (zeroCA, En.zero)).1 (rv.getD (zeroCA, En.zero)).2.c) := Lib.hid (fun w' hb => by
    cases rv with
    | none => exact RdC.zero9 _ _
    | some v => exact ((h.win.ent v.1 v.2 (winAt_mem hrv)).below hb).rd)
  have HE : Hid ((rv.map (·.2)).getD En.zero = (rv.getD (zeroCA, En.zero)).2 ∧ (rv.map (·.2)).isSome = rv.isSome) := Lib.hid (by cases rv <;> exact ⟨rfl, rfl⟩)
  unfold GotE16
  rw [HE.out.1, HE.out.2]
  obtain ⟨z, hz⟩ : ∃ z, rv.getD (zeroCA, En.zero) = z := ⟨_, rfl⟩
  obtain ⟨ok, hok⟩ : ∃ ok, rv.isSome = ok := ⟨_, rfl⟩
  have HC := Lib.hid (fun w' (hb : Below w.heap.size w w') => winGet w' (h.win.below hb) i hrv)
  rw [hz] at HF HR HC ⊢
  rw [hok] at HC ⊢
  obtain ⟨cz, e⟩ := z
  have hc := h.blk.cell 5
  have HK := Lib.hid h.blk
  simp only at HF HR HC ⊢
  clear h hz hok hrv HE HV
  go_enter Tryz.func23, Tryz.ntmps23
  go_upto_region 1 with fail
  obtain ⟨g4, w1, hgE, hwE, hbE, hkE⟩ := alloced w #[.int .i64 0, .int .i64 0, .int .i64 0, .int .i64 0, .slice none 0 0, .slice none 0 0, .slice none 0 0] 40
  rw [hgE, hwE]
  have HBE := Lib.hid hbE
  have HKE := Lib.hid hkE
  have HG4 := Lib.hid hgE
  have hc1 := (HK.out.below hbE).cell 5
  simp at hc1
  clear hgE hwE hbE hkE hc
  go_upto_region 2 with (first
    | (go_at_call 45; refine (HC.out w1 HBE.out).mono ?_; rintro en w2 ⟨rfl, hb⟩
       have HB2 := Lib.hid hb
       clear hb)
    | (refine wpList_store_row rfl 40 (.tmp 6) (.tmp 15) rfl w2.heap.size (entC cz e) rfl rfl 40 #[.int .i64 0, .int .i64 0, .int .i64 0, .int .i64 0, .slice none 0 0, .slice none 0 0, .slice none 0 0] (Blk.new w2 40 #[.int .i64 0, .int .i64 0, .int .i64 0, .int .i64 0, .slice none 0 0, .slice none 0 0, .slice none 0 0]) (by kernel_rfl) rfl (by kernel_rfl) ?_)
    | fail)
  obtain ⟨g6, w3, hg6, hw3, hb3, hk3⟩ := boxed w2 #[.int .i64 0, .int .i64 0, .int .i64 0, .int .i64 0, .slice none 0 0, .slice none 0 0, .slice none 0 0] (entC cz e) 40
  rw [hg6, hw3]
  have HB3 := Lib.hid (HB2.out.trans (hb3.mono HB2.out.size))
  have HBW := Lib.hid (HBE.out.trans (HB3.out.mono HBE.out.size))
  have HK3 := Lib.hid hk3
  have HK4 := Lib.hid (HKE.out.below HB3.out)
  clear hg6 hw3 hb3 hk3 HB2 HKE
  have HCE := Lib.hid (entA_any (W := w) HF.out (HR.out w3 HBW.out) HBW.out)
  go_wp2_with (first
    | (refine wpList_load_row rfl 40 (.tmp 6) rfl g6 rfl 40 (entC cz e) (0, 0) _ HK3.out Tryz.underlying40 rfl (by kernel_rfl) ?_)
    | (go_at_call 35; refine HCE.out.mono ?_; rintro en w4 ⟨ca, rfl, ho, hB, hb⟩
       have HO := Lib.hid ho
       have HB4 := Lib.hid hB
       have HK5 := Lib.hid (HK4.out.below hb)
       clear ho hB hb)
    | (refine wpList_store_row rfl 40 (.tmp 4) (.tmp 18) rfl g4 (entC ca e) rfl rfl 40 #[.int .i64 0, .int .i64 0, .int .i64 0, .int .i64 0, .slice none 0 0, .slice none 0 0, .slice none 0 0] HK5.out (by kernel_rfl) rfl (by kernel_rfl) ?_)
    | fail)
  refine bodyPost_ret (results_cell_tmp rfl _ _ _ _ _ _ rfl (Blk.row HK5.out (entC ca e)) Tryz.underlying40 rfl (by kernel_rfl)) rfl ?_
  have hsz : w.heap.size ≤ g4 := by have := HG4.out; omega
  exact ⟨ca, rfl, ⟨own_row_t HO.out.k HK5.out (by decide), own_row_t HO.out.v HK5.out (by decide), own_row_t HO.out.o HK5.out (by decide)⟩, below_setRow HB4.out hsz _⟩
end
end Go.Proofs.YtaknfmionkkdjaaGreat

namespace Go.Proofs.YtaknfmionkkdjaaGreat
open Go.RowKit
set_option linter.unusedVariables false
theorem Bk.upd_snd (f : Int → Option En) (fr : Nat) (ss : List (Option VE)) (hf : ∀ i, f i = (winAt fr ss i).map (·.2)) (kk : Nat) (ca : CA) (e : En) (i : Int) : Bk.upd f ((fr : Int) + 1 + (kk : Int)) e i = (winAt fr (Wd.laid ss kk (ca, e)) i).map (·.2) := by
  rw [winAt_laid]
  unfold Bk.upd
  split
  · rfl
  · exact hf i
section
variable (w : World) {b g fr wh n c : Nat} {aM : MA} {A : Option Addr} {ss : List (Option VE)} {k : Bk} (h : BkM w b aM g fr wh A n c ss k)
include h
/-- an entry goes into a book's window -/
theorem bkPutM (i : Int) {ca : CA} {e : En} (hf : e.c.Fits) (hr : RdC9 w ca e.c) (hw : k.wh ≤ k.pos + 90000) : Calls Tryz.prog 34 #[.pointer (some ⟨g, 0, none⟩), .int .i64 i, .agg (entC ca e)] w fun en w' => en = .returned (.bool (k.may i)) ∧ ∃ wh' A' n' c' ss', BkM w' b aM g fr wh' A' n' c' ss' (k.add i e) ∧ Adv (bkS b g A) w (bkS b g A') w' := by
  have hlen := h.win.len
  have hle := Wd.lead_le ss
  have hfew := h.few
  have hlead := h.lead
  have hpos := h.pos
  have hwhole := h.whole
  have hp1 := h.p1
  rw [hpos, hwhole] at hw
  cases hm : k.may i with
  | false =>
    refine (winPut_no w h.win (by unfold FitB; omega) i ca e ?_).mono ?_
    · by_cases q1 : i ≤ (fr : Int)
      · exact .inl q1
      · by_cases q2 : (wh : Int) + 64 < i
        · exact .inr (.inl q2)
        · refine .inr (.inr ?_)
          unfold Bk.may at hm
          rw [hpos, hwhole, decide_eq_true (by omega : (fr : Int) < i), decide_eq_true (by omega : i ≤ (wh : Int) + 64), Bool.and_true, Bool.and_true, h.f] at hm
          rw [winAt_has]
          cases q3 : winAt fr ss i with
          | none => rw [q3] at hm; simp at hm
          | some v => rfl
    · rintro en w' ⟨rfl, hb⟩
      refine ⟨rfl, wh, A, n, c, ss, ?_, Adv.of_below _ hb⟩
      have e1 : k.add i e = k := by unfold Bk.add; rw [if_neg (by rw [hm]; decide)]
      rw [e1]
      exact h.below hb
  | true =>
    have hm' := hm
    unfold Bk.may at hm'
    rw [hpos, hwhole, Bool.and_eq_true, Bool.and_eq_true, decide_eq_true_iff, decide_eq_true_iff] at hm'
    obtain ⟨⟨q1, q2⟩, q3⟩ := hm'
    obtain ⟨kk, rfl⟩ : ∃ kk : Nat, i = (fr : Int) + 1 + (kk : Int) := ⟨(i - fr - 1).toNat, by omega⟩
    have hno : ss[kk]?.join = none := by
      rw [h.f, winAt_k] at q1
      cases q : ss[kk]?.join with
      | none => rfl
      | some v => rw [q] at q1; simp at q1
    refine (winPut w h.win hlead kk hr (by omega) hno (by unfold FitB; omega) (by omega) (by omega)).mono ?_
    rintro en w' ⟨A', n', c', rfl, hw', ha⟩
    refine ⟨rfl, fr + Wd.lead (Wd.laid ss kk (ca, e)), A', n', c', Wd.laid ss kk (ca, e), ?_⟩
    have e1 : k.add ((fr : Int) + 1 + (kk : Int)) e = ⟨k.m, k.pos, Bk.upd k.f ((fr : Int) + 1 + (kk : Int)) e, k.addWh ((fr : Int) + 1 + (kk : Int)) e⟩ := by unfold Bk.add; rw [if_pos hm]
    rw [e1]
    have hl2 := hw'.len
    rw [Wd.laid_length] at hl2
    have hll := Wd.lead_laid ss kk (ca, e)
    have hff := Bk.upd_snd k.f fr ss h.f kk ca e
    have hww := win_whole fr (Wd.laid ss kk (ca, e)) (Bk.upd k.f ((fr : Int) + 1 + (kk : Int)) e) hff
    have hok := h.ok
    have hup : Bk.Whole (Bk.upd k.f ((fr : Int) + 1 + (kk : Int)) e) (fr : Int) (k.addWh ((fr : Int) + 1 + (kk : Int)) e) := by
      refine Bk.up_whole (hi := (wh : Int) + 64) (fun j hj => ?_) (65 + 65) (fr : Int) k.wh (by rw [hwhole]; omega) (fun j hj1 hj2 => ?_) (by rw [hwhole]; omega)
      · unfold Bk.upd
        rw [if_neg (by omega)]
        exact hok.hi j (by rw [hwhole]; exact hj)
      · unfold Bk.upd
        split
        · rfl
        · exact hok.w.all j (by rw [hpos]; exact hj1) hj2
    refine h.inWin (k' := ⟨k.m, k.pos, Bk.upd k.f ((fr : Int) + 1 + (kk : Int)) e, k.addWh ((fr : Int) + 1 + (kk : Int)) e⟩) hw' ha rfl rfl (by omega) hpos (hup.uniq hww) hff (fun a e' he => ?_) hp1
    obtain ⟨j, hj⟩ := List.getElem?_of_mem he
    have hjj := Wd.laid_get ss kk (ca, e) j
    rw [hj] at hjj
    simp only [Option.join_some] at hjj
    by_cases q : j = kk
    · rw [if_pos q] at hjj
      injection hjj with hjj
      injection hjj with _ q5
      rw [q5]
      exact hf
    · rw [if_neg q] at hjj
      exact h.fits a e' (List.mem_of_getElem? (Wd.join_some.1 hjj.symm))
set_option maxHeartbeats 2000000 in
set_option maxRecDepth 100000 in
theorem bkAddM (i : Int) {ca : CA} {e : En} {B : Nat} (hf : e.c.Fits) (hr : RdC w B ca e.c) (hw : k.wh ≤ k.pos + 90000) : Calls Tryz.prog 8 #[.pointer (some ⟨b, 0, none⟩), .int .i64 i, .agg (entC ca e)] w fun en w' => en = .returned (.bool (k.may i)) ∧ GotBk (bkS b g A) w b (k.add i e) w' := by
  obtain ⟨m, hm⟩ : ∃ m, k.may i = m := ⟨_, rfl⟩
  obtain ⟨k2, hk2⟩ : ∃ k2, k.add i e = k2 := ⟨_, rfl⟩
  have HP := Lib.hid (fun w1 (h1 : BkM w1 b aM g fr wh A n c ss k) (ca1 : CA) (hr1 : RdC9 w1 ca1 e.c) => bkPutM w1 h1 i hf hr1 hw)
  rw [hm, hk2] at HP
  rw [hm, hk2]
  have H := Lib.hid h
  have HF := Lib.hid hf
  have HR0 := Lib.hid hr.fit9
  clear h hm hk2 hw hf hr
  go_enter Tryz.func8, Tryz.ntmps8
  go_upto_region 1 with fail
  obtain ⟨g5, w1, hgE, hwE, hbE, hkE⟩ := alloced w (entC ca e) 40
  rw [hgE, hwE]
  have hb1 : Below w.heap.size w w1.drew := hbE.drew
  have hk1 : Blk w1.drew g5 40 (entC ca e) := hkE.drew
  obtain ⟨w4, hw4⟩ : ∃ w4, w4 = w1.drew := ⟨_, rfl⟩
  rw [← hw4] at hb1 hk1
  have H4 := Lib.hid (H.out.below hb1)
  have hrg : w4.rangeAt g5 0 [.int .i64 e.s, .int .i64 e.q, .int .i64 e.c.kind, .int .i64 e.c.who, .slice ca.Ak e.c.key.length ca.ck, .slice ca.Av e.c.val.length ca.cv, .slice ca.Ao e.c.old.length ca.co] := fun q v hv => by
    rw [Nat.zero_add, hk1.cell]
    have : (entC ca e)[q]? = ([.int .i64 e.s, .int .i64 e.q, .int .i64 e.c.kind, .int .i64 e.c.who, .slice ca.Ak e.c.key.length ca.ck, .slice ca.Av e.c.val.length ca.cv, .slice ca.Ao e.c.old.length ca.co] : List Value)[q]? := by simp [entC]
    rw [this, hv]
  have HS := Lib.hid (And.intro (H4.out.blk.cell 5) hrg)
  simp at HS
  refine wp_region_held_drew (S := fun wq => wq.cell? ⟨b, 5, none⟩ = some (.pointer (some ⟨g, 0, none⟩)) ∧ wq.rangeAt g5 0 [.int .i64 e.s, .int .i64 e.q, .int .i64 e.c.kind, .int .i64 e.c.who, .slice ca.Ak e.c.key.length ca.ck, .slice ca.Av e.c.val.length ca.cv, .slice ca.Ao e.c.old.length ca.co]) (by kernel_rfl) (by rw [← hw4]; exact HS.out) (fun _ => ?_)
  rw [← hw4]
  have HB1 := Lib.hid hb1
  have HK1 := Lib.hid hk1
  have HR1 := Lib.hid ((HR0.out.below hb1).fit9)
  clear hw4 hrg hb1 hk1 hgE hwE hbE hkE
  refine wpAnyH_take (i := 0) (v := .pointer (some ⟨b, 0, none⟩)) rfl (by kernel_rfl) (by kernel_rfl) (by kernel_rfl) (fun _ _ _ h => h) (Or.inl ⟨by kernel_rfl, fun w _ => by go_simp⟩) HS.out ?_
  refine wpAnyH_take (i := 1) (v := .pointer (some ⟨b, 0, none⟩)) rfl (by kernel_rfl) (by kernel_rfl) (by kernel_rfl) (fun _ _ _ h => h) (Or.inl ⟨by kernel_rfl, fun w _ => by go_simp⟩) HS.out ?_
  refine wpAnyH_take (i := 2) (v := .pointer (some ⟨b, 5, none⟩)) rfl (by kernel_rfl) (by kernel_rfl) (by kernel_rfl) (fun _ _ _ h => h) (Or.inl ⟨by kernel_rfl, fun w _ => by go_simp⟩) HS.out ?_
  refine wpAnyH_take (i := 3) (v := .pointer (some ⟨g, 0, none⟩)) rfl (by kernel_rfl) (by kernel_rfl) (by kernel_rfl) (fun _ _ _ h => h) (Or.inl ⟨by kernel_rfl, fun w h => by obtain ⟨h, _⟩ := h; go_simp⟩) HS.out ?_
  refine wpAnyH_take (i := 4) (v := .int .i64 i) rfl (by kernel_rfl) (by kernel_rfl) (by kernel_rfl) (fun _ _ _ h => h) (Or.inl ⟨by kernel_rfl, fun w _ => by go_simp⟩) HS.out ?_
  refine wpAnyH_take (i := 5) (v := .agg #[.int .i64 e.s, .int .i64 e.q, .int .i64 e.c.kind, .int .i64 e.c.who, .slice ca.Ak e.c.key.length ca.ck, .slice ca.Av e.c.val.length ca.cv, .slice ca.Ao e.c.old.length ca.co]) rfl (by kernel_rfl) (by kernel_rfl) (by kernel_rfl) (fun _ _ _ h => h) (yieldsIf_load_mid (by kernel_rfl) 40 (.tmp 5) rfl g5 0 rfl [.int .i64 e.s, .int .i64 e.q, .int .i64 e.c.kind, .int .i64 e.c.who, .slice ca.Ak e.c.key.length ca.ck, .slice ca.Av e.c.val.length ca.cv, .slice ca.Ao e.c.old.length ca.co] _ (fun _ h => h.2) Tryz.underlying40 rfl (by kernel_rfl)) HS.out ?_
  refine wpAnyH_ready (rs := [6]) (by kernel_rfl) (by simp) ?_
  refine AllReadyH.cons rfl (fun K hK => ?_) AllReadyH.nil
  go_simp
  refine (entA_any (W := w4) HF.out HR1.out (Below.refl _ _)).mono ?_
  rintro en w5 ⟨cb, rfl, ho, hB, hb⟩
  have H5 := Lib.hid (H4.out.below hb)
  have HK5 := Lib.hid (HK1.out.below hb)
  have HO5 := Lib.hid (RdC9.own ho)
  have hS5 : w5.cell? ⟨b, 5, none⟩ = some (.pointer (some ⟨g, 0, none⟩)) ∧ w5.rangeAt g5 0 [.int .i64 e.s, .int .i64 e.q, .int .i64 e.c.kind, .int .i64 e.c.who, .slice ca.Ak e.c.key.length ca.ck, .slice ca.Av e.c.val.length ca.cv, .slice ca.Ao e.c.old.length ca.co] := by
    refine ⟨?_, fun q v hv => ?_⟩
    · have := H5.out.blk.cell 5; simpa using this
    · rw [Nat.zero_add, HK5.out.cell]
      have : (entC ca e)[q]? = ([.int .i64 e.s, .int .i64 e.q, .int .i64 e.c.kind, .int .i64 e.c.who, .slice ca.Ak e.c.key.length ca.ck, .slice ca.Av e.c.val.length ca.cv, .slice ca.Ao e.c.old.length ca.co] : List Value)[q]? := by simp [entC]
      rw [this, hv]
  have HA5 : Hid (Adv (bkS b g A) w (bkS b g A) w5) := Lib.hid (Adv.of_below _ (HB1.out.trans (hb.mono HB1.out.size)))
  clear ho hB hb
  go_simp
  refine hK.out _ _ hS5 (fun _ => ?_)
  clear hK K
  refine wpAnyH_ready (rs := [7]) (by kernel_rfl) (by simp) ?_
  refine AllReadyH.cons rfl (fun K hK => ?_) AllReadyH.nil
  go_simp
  refine (HP.out w5 H5.out cb HO5.out).mono ?_
  rintro en w6 ⟨rfl, wh', A', n', c', ss', h6, ha6⟩
  have hk6 := ha6.blk H5.out.of HK5.out (by decide)
  have hS6 : w6.cell? ⟨b, 5, none⟩ = some (.pointer (some ⟨g, 0, none⟩)) ∧ w6.rangeAt g5 0 [.int .i64 e.s, .int .i64 e.q, .int .i64 e.c.kind, .int .i64 e.c.who, .slice ca.Ak e.c.key.length ca.ck, .slice ca.Av e.c.val.length ca.cv, .slice ca.Ao e.c.old.length ca.co] := by
    refine ⟨?_, fun q v hv => ?_⟩
    · have := h6.blk.cell 5; simpa using this
    · rw [Nat.zero_add, hk6.cell]
      have : (entC ca e)[q]? = ([.int .i64 e.s, .int .i64 e.q, .int .i64 e.c.kind, .int .i64 e.c.who, .slice ca.Ak e.c.key.length ca.ck, .slice ca.Av e.c.val.length ca.cv, .slice ca.Ao e.c.old.length ca.co] : List Value)[q]? := by simp [entC]
      rw [this, hv]
  have H6 := Lib.hid h6
  have HA6 := Lib.hid (HA5.out.trans ha6)
  clear h6 ha6 hk6 hS5
  go_simp
  refine hK.out _ _ hS6 (fun _ => ?_)
  clear hK K
  refine wpAnyH_take (i := 8) (v := .bool m) rfl (by kernel_rfl) (by kernel_rfl) (by kernel_rfl) (fun _ _ _ h => h) (Or.inl ⟨by kernel_rfl, fun w _ => by go_simp⟩) hS6 ?_
  refine wpAnyH_done (by kernel_rfl) ?_ _
  go_simp
  go_wp2_with fail
  go_ret
  exact ⟨rfl, _, ⟨aM, g, fr, wh', A', n', c', ss', H6.out, rfl⟩, HA6.out⟩
end
theorem bkAdd (w : World) {S : Nat → Prop} {b : Nat} {k : Bk} (h : BkAt w S b k) (i : Int) {ca : CA} {e : En} {B : Nat} {m : Bool} {k2 : Bk} (hm : k.may i = m) (hk : k.add i e = k2) (hf : e.c.Fits) (hr : RdC w B ca e.c) (hw : k.wh ≤ k.pos + 90000) : Calls Tryz.prog 8 #[.pointer (some ⟨b, 0, none⟩), .int .i64 i, .agg (entC ca e)] w fun en w' => en = .returned (.bool m) ∧ GotBk S w b k2 w' := by
  obtain ⟨aM, g, fr, wh, A, n, c, ss, h1, rfl⟩ := h
  subst hm hk
  exact bkAddM w h1 i hf hr hw
theorem bkAt (w : World) {S : Nat → Prop} {b : Nat} {k : Bk} (h : BkAt w S b k) : Calls Tryz.prog 26 #[.pointer (some ⟨b, 0, none⟩)] w fun e w' => e = .returned (.int .i64 k.pos) ∧ w = w' := by
  obtain ⟨aM, g, fr, wh, A, n, c, ss, h1, rfl⟩ := h
  rw [h1.pos]
  exact bkAtM w h1
theorem bkWhole (w : World) {S : Nat → Prop} {b : Nat} {k : Bk} (h : BkAt w S b k) : Calls Tryz.prog 27 #[.pointer (some ⟨b, 0, none⟩)] w fun e w' => e = .returned (.int .i64 k.wh) ∧ w = w' := by
  obtain ⟨aM, g, fr, wh, A, n, c, ss, h1, rfl⟩ := h
  rw [h1.whole]
  exact bkWholeM w h1
theorem bkMachine (w : World) {S : Nat → Prop} {b : Nat} {k : Bk} (h : BkAt w S b k) {m : Mc} (hm : k.m = m) : Calls Tryz.prog 16 #[.pointer (some ⟨b, 0, none⟩)] w fun e w' => ∃ a', e = .returned (machV a' m) ∧ OwnM w w' a' m ∧ Below w.heap.size w w' := by
  obtain ⟨aM, g, fr, wh, A, n, c, ss, h1, rfl⟩ := h
  subst hm
  exact bkMachineM w h1
theorem bkGet (w : World) {S : Nat → Prop} {b : Nat} {k : Bk} (h : BkAt w S b k) (i : Int) {r : Option En} (hr : k.f i = r) : Calls Tryz.prog 23 #[.pointer (some ⟨b, 0, none⟩), .int .i64 i] w (GotE16 w r) := by
  obtain ⟨aM, g, fr, wh, A, n, c, ss, h1, rfl⟩ := h
  exact bkGetM w h1 i hr
end Go.Proofs.YtaknfmionkkdjaaGreat

namespace Go.Proofs.YtaknfmionkkdjaaGreat
open Go.RowKit
set_option linter.unusedVariables false
theorem iv_snocC (l : List Int) (z : Int) : iv (l ++ [z]) = iv l ++ [.int .i64 z] := by simp [iv]
set_option maxHeartbeats 4000000 in
set_option maxRecDepth 100000 in
theorem bkMissing (w : World) {S : Nat → Prop} {b : Nat} {k : Bk} (h : BkAt w S b k) (t : Int) {r : List Int} (hr : k.missing t = r) (hw : k.wh ≤ k.pos + 90000) :
    Calls Tryz.prog 29 #[.pointer (some ⟨b, 0, none⟩), .int .i64 t] w fun e w' => ∃ A c, e = .returned (.slice A r.length c) ∧ OwnI w w' A r.length c r ∧ Below w.heap.size w w' := by
  have HOK := Lib.hid h.ok
  have H := Lib.hid h
  have HR := Lib.hid hr
  obtain ⟨wh, hwh⟩ : ∃ wh, k.wh = wh := ⟨_, rfl⟩
  have hb0 : 0 ≤ wh ∧ wh ≤ 2199023255552 := by have h1 := HOK.out.p0; have h2 := HOK.out.p1; have h3 := HOK.out.w.le; omega
  obtain ⟨hb0, hb1⟩ := hb0
  have HHI : Hid (∀ i, wh + 64 < i → k.f i = none) := Lib.hid (by rw [← hwh]; exact HOK.out.hi)
  unfold Bk.missing at HR
  rw [hwh] at HR
  have CW := Lib.hid (bkWhole w h)
  rw [hwh] at CW
  have hww : IntKind.i64.wrap (wh + 1) = wh + 1 := IntWalk.i64_in _ (by omega)
  clear h hr hwh hw
  go_enter Tryz.func29, Tryz.ntmps29
  go_wp2_with (first
    | (go_at_call 27; refine CW.out.mono ?_; rintro en w1 ⟨rfl, rfl⟩)
    | fail)
  clear CW
  go_loopw [5, 6] (fun s5 s6 wr => ∃ (kk : Nat) (A1 : Option Addr) (c1 : Nat) (acc : List Int), s6 = .int .i64 (wh + 1 + (kk : Int)) ∧ s5 = .slice A1 acc.length c1 ∧ acc.length ≤ 8 ∧ kk ≤ 64 + acc.length ∧ Hid (OwnI w wr A1 acc.length c1 acc) ∧ Hid (r = acc ++ Bk.missF k.f t (200 - kk) (8 - acc.length) (wh + 1 + (kk : Int))) ∧ Hid (Below w.heap.size w wr)) (fun _ s6 _ => (wh + 1 + 100 - intOf s6).toNat)
  case atStart => exact ⟨0, none, 0, [], by simp, rfl, by decide, by decide, Lib.hid (ownI_nil _ _), Lib.hid (by rw [← HR.out]; simp), Lib.hid (Below.refl _ _)⟩
  case round =>
    obtain ⟨kk, A1, c1, acc, rfl, rfl, ha8, hk, HO, HQ, HB⟩ := hrel
    obtain ⟨i, hi⟩ : ∃ i : Int, wh + 1 + (kk : Int) = i := ⟨_, rfl⟩
    have HI := Lib.hid hi
    have hi0 : 0 ≤ i ∧ i ≤ 2199023256000 := by omega
    obtain ⟨hi0, hi1⟩ := hi0
    have hwi : IntKind.i64.wrap (i + 1) = i + 1 := IntWalk.i64_in _ (by omega)
    obtain ⟨L, hL⟩ : ∃ L, acc.length = L := ⟨_, rfl⟩
    have HL := Lib.hid hL
    rw [hi] at HQ ⊢
    rw [hL] at HO HQ ha8 hk ⊢
    clear hi hL
    obtain ⟨fu, hfu⟩ : ∃ fu, 200 - kk = fu + 1 := ⟨199 - kk, by omega⟩
    by_cases ht : t < i
    · have hti : ¬ i ≤ t := by omega
      have hq := HQ.out
      rw [hfu] at hq
      have hz : Bk.missF k.f t (fu + 1) (8 - L) i = [] := by
        cases h8 : 8 - L with
        | zero => rfl
        | succ q => unfold Bk.missF; rw [if_pos ht]
      rw [hz, List.append_nil] at hq
      go_wp2_with fail
      go_ret
      subst hq
      exact ⟨A1, c1, by rw [HL.out]; rfl, by rw [HL.out]; exact HO.out, HB.out⟩
    · have hti : i ≤ t := by omega
      by_cases hL8 : L = 8
      · have hlt : ¬ (L : Int) < 8 := by omega
        have hq := HQ.out
        have hz : Bk.missF k.f t (200 - kk) (8 - L) i = [] := by rw [hfu, hL8]; rfl
        rw [hz, List.append_nil] at hq
        clear hL8
        go_wp2_with fail
        go_ret
        subst hq
        exact ⟨A1, c1, by rw [HL.out]; rfl, by rw [HL.out]; exact HO.out, HB.out⟩
      · have hlt : (L : Int) < 8 := by omega
        obtain ⟨lf, hlf⟩ : ∃ lf, 8 - L = lf + 1 := ⟨7 - L, by omega⟩
        obtain ⟨x, hx⟩ : ∃ x, k.f i = x := ⟨_, rfl⟩
        have hq := HQ.out
        rw [hfu, hlf] at hq
        unfold Bk.missF at hq
        rw [if_neg ht, hx] at hq
        have HQ2 := Lib.hid hq
        obtain ⟨aM, g, fr, wh', A, n, c, ss, h1, hS⟩ := H.out.below HB.out
        obtain ⟨rv, hrv⟩ : ∃ rv, winAt fr ss i = rv := ⟨_, rfl⟩
        have hxs : x.isSome = rv.isSome := by rw [← hx, h1.f, hrv]; cases rv <;> rfl
        have CG := Lib.hid (winGet wr h1.win i hrv)
        rw [← hxs] at CG
        obtain ⟨z, hz⟩ : ∃ z, rv.getD (zeroCA, En.zero) = z := ⟨_, rfl⟩
        rw [hz] at CG
        obtain ⟨cz, ez⟩ := z
        simp only at CG
        have x5 := h1.blk.cell 5
        simp at x5
        have HX := Lib.hid hx
        clear hq hx HQ h1 hS hrv hxs hz
        go_upto_region 6 with (first
          | (go_at_call 45; refine CG.out.mono ?_; rintro en w2 ⟨rfl, hb2⟩
             have HB2 := Lib.hid (HB.out.trans (hb2.mono HB.out.size))
             have HO2 := Lib.hid (ownsRow_below HO.out hb2)
             clear hb2)
          | (refine wpList_store_row rfl 40 (.tmp 7) (.tmp 29) rfl w2.heap.size (entC cz ez) rfl rfl 40 #[.int .i64 0, .int .i64 0, .int .i64 0, .int .i64 0, .slice none 0 0, .slice none 0 0, .slice none 0 0] (Blk.new w2 40 #[.int .i64 0, .int .i64 0, .int .i64 0, .int .i64 0, .slice none 0 0, .slice none 0 0, .slice none 0 0]) (by kernel_rfl) rfl (by kernel_rfl) ?_)
          | fail)
        obtain ⟨g7, w3, hgE, hwE, hbE, hkE⟩ := boxed w2 #[.int .i64 0, .int .i64 0, .int .i64 0, .int .i64 0, .slice none 0 0, .slice none 0 0, .slice none 0 0] (entC cz ez) 40
        rw [hgE, hwE]
        have HB3 := Lib.hid (HB2.out.trans (hbE.mono HB2.out.size))
        have HO3 := Lib.hid (ownsRow_below HO2.out hbE)
        clear hgE hwE hbE hkE HO HO2 HB2 CG x5
        cases x with
        | some e =>
          have hq := HQ2.out
          simp only [Option.isSome_some, if_true] at hq
          have hk64 : kk < 64 + L := by
            rcases Nat.lt_or_ge kk 64 with h | h
            · omega
            · have := HHI.out i (by have := HI.out; omega)
              rw [HX.out] at this; cases this
          go_wp2_with fail
          go_roundw
          case rel => exact ⟨kk + 1, A1, c1, acc, by have := HI.out; go_num, by rw [HL.out], by rw [HL.out]; exact ha8, by rw [HL.out]; omega, by rw [HL.out]; exact HO3, Lib.hid (by rw [HL.out, show 200 - (kk + 1) = fu by omega, hlf, show wh + 1 + ((kk + 1 : Nat) : Int) = i + 1 by have := HI.out; omega]; exact hq), HB3⟩
          case measure => have := HI.out; simp only [intOf]; omega
        | none =>
          have hq := HQ2.out
          simp only [Option.isSome_none, Bool.false_eq_true, if_false] at hq
          have HQ3 := Lib.hid hq
          clear hq HQ2
          go_wp2_with (first
            | (at_builtin
               refine wpList_append_cells (W := w) cellI (.tmp 33) (.tmp 35) rfl (by rfl) rfl (ownsRow_below HO3.out ((Below.refl _ _).alloc (Nat.le_refl _) _)) rfl (Rd.oneV _ _ _) (by intro u hu; simp at hu; subst hu; rfl) (by omega) (by omega) (HB3.out.alloc HB3.out.size _) ?_
               intro A4 c4 w4 ho4 hB4 hr4
               rw [← iv_snocC] at ho4
               have HO4 := Lib.hid ho4
               have HB4 := Lib.hid hB4
               clear ho4 hr4 hB4)
            | fail)
          go_roundw
          case rel =>
            have hl1 : (acc ++ [i]).length = L + 1 := by rw [List.length_append, HL.out]; rfl
            exact ⟨kk + 1, A4, c4, acc ++ [i], by have := HI.out; go_num, by rw [hl1], by rw [hl1]; omega, by rw [hl1]; omega, by rw [hl1]; exact HO4, Lib.hid (by rw [hl1, show 200 - (kk + 1) = fu by omega, show 8 - (L + 1) = lf by omega, show wh + 1 + ((kk + 1 : Nat) : Int) = i + 1 by have := HI.out; omega, List.append_assoc]; exact HQ3.out), HB4⟩
          case measure => have := HI.out; simp only [intOf]; omega
end Go.Proofs.YtaknfmionkkdjaaGreat

