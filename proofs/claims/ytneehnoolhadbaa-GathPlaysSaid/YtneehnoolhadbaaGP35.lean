/- GathAwake MesgRSameT -/
import Derived.Test.YtneehnoolhadbaaGP24
import Derived.Test.YtneehnoolhadbaaGP33
import Derived.Test.YtneehnoolhadbaaGP34
import Derived.OwnWalk
import Derived.WalkLawsBesides
import Derived.WalkSpells
namespace Go.Proofs.Ytneehnoolhadbaa
open Go.RowKit
set_option linter.unusedVariables false
set_option linter.unusedSimpArgs false
/-- a variable that is no block of the gather's -/
structure VarA (w : World) (S : Nat → Prop) (q : Nat) (cs : Array Value) : Prop where
  blk : Blk w q 31 cs
  no : ¬ S q
theorem VarA.adv {w w' : World} {S S' : Nat → Prop} {q : Nat} {cs : Array Value} (h : VarA w S q cs) (ha : Adv S w S' w') : VarA w' S' q cs :=
  ⟨h.blk.keeps ha.keeps h.no, fun hq => by
    rcases ha.grow q hq with h1 | h1
    · exact h.no h1
    · have := h.blk.lt; omega⟩
theorem VarA.below {w w' : World} {S : Nat → Prop} {q : Nat} {cs : Array Value} (h : VarA w S q cs) (hb : Below w.heap.size w w') : VarA w' S q cs := ⟨h.blk.below hb, h.no⟩
theorem VarA.new {W w w' : World} {S : Nat → Prop} {b q : Nat} {g : Gm} {cs : Array Value} (h : GthAt W w S b g) (hq : w.heap.size = q) (hk : Blk w' q 31 cs) : VarA w' S q cs :=
  ⟨hk, fun hs => by have := (h.lt q hs).2; omega⟩
theorem own_advG {W w w' : World} {S S' : Nat → Prop} {b base size n : Nat} {g : Gm} {e : TypeId} {v : Value} {xs : List Value} (h : w.ownsRow base e size v n xs) (hg : GthAt W w S b g) (ha : Adv S w S' w') (he : e ∉ TG) : w'.ownsRow base e size v n xs := ownsRow_keeps h ha.keeps hg.of he
def gA0 : Gm := Gm.new 3 1 9 ⟨2, 1, 0, 0, true⟩
def gA1 : Gm := gA0.add ⟨2, 0, 0, 0, true⟩
def gA2 : Gm := { gA1 with com := some (3, 0, 0) }
def gA3 : Gm := { gA2 with ready := 1 }
def gA4 : Gm := { gA2 with ready := 3 }
def AwakeC18 : Prop := ∀ (w : World), Calls Try.prog 18 #[] w fun e w' => e = .returned (.bool true) ∧ Below w.heap.size w w'
set_option maxHeartbeats 4000000 in
set_option maxRecDepth 100000 in
theorem awake18 : AwakeC18 := by
  intro w
  go_enter Try.func18, Try.ntmps18
  go_wp2_with fail
  refine (gnew_any (W := w) (w := w) (a := GA.zero) (m := { Mg.zero with kind := 2, frm := 1, view := 9, inst := 0, len := 0, has := true }) 3 9 1 3 (Below.refl _ _) ⟨by decide, by decide⟩ (by decide) (by decide) (by decide)).mono ?_
  rintro e w1 ⟨b, S, rfl, hg, hb, hlo⟩
  have HG : Hid (GthAt w w1 S b gA0) := Lib.hid hg
  clear hg hb hlo
  go_wp2_with fail
  have C1 := gcommit_any (g2 := gA0) HG.out (by kernel_rfl)
  rw [show msgV GA.zero gA0.msg = .agg #[.int .i64 0, .int .i64 0, .int .i64 0, .int .i64 0, .int .i64 0, .int .i64 0, .bool false, .int .i64 0, .int .i64 0, .int .i64 0, .int .i64 0, .slice none 0 0, .int .i64 0, .int .i64 0, .slice none 0 0, .slice none 0 0, .int .i64 0, .int .i64 0, .int .i64 0, .int .i64 0, .int .i64 0, .slice none 0 0, .slice none 0 0, .slice none 0 0] from rfl, show gA0.com.isSome = false from rfl] at C1
  refine C1.mono ?_
  rintro e w2 ⟨rfl, S2, hg, ha⟩
  clear HG C1
  have HG := Lib.hid hg
  clear hg ha
  go_upto_region 5 with (first
    | (refine wpList_store_row rfl 31 (.tmp 2) (.tmp 21) rfl w2.heap.size #[.int .i64 0, .int .i64 0, .int .i64 0, .int .i64 0, .int .i64 0, .int .i64 0, .bool false, .int .i64 0, .int .i64 0, .int .i64 0, .int .i64 0, .slice none 0 0, .int .i64 0, .int .i64 0, .slice none 0 0, .slice none 0 0, .int .i64 0, .int .i64 0, .int .i64 0, .int .i64 0, .int .i64 0, .slice none 0 0, .slice none 0 0, .slice none 0 0] rfl rfl 31 #[.int .i64 0, .int .i64 0, .int .i64 0, .int .i64 0, .int .i64 0, .int .i64 0, .bool false, .int .i64 0, .int .i64 0, .int .i64 0, .int .i64 0, .slice none 0 0, .int .i64 0, .int .i64 0, .slice none 0 0, .slice none 0 0, .int .i64 0, .int .i64 0, .int .i64 0, .int .i64 0, .int .i64 0, .slice none 0 0, .slice none 0 0, .slice none 0 0] (Blk.new w2 31 #[.int .i64 0, .int .i64 0, .int .i64 0, .int .i64 0, .int .i64 0, .int .i64 0, .bool false, .int .i64 0, .int .i64 0, .int .i64 0, .int .i64 0, .slice none 0 0, .int .i64 0, .int .i64 0, .slice none 0 0, .slice none 0 0, .int .i64 0, .int .i64 0, .int .i64 0, .int .i64 0, .int .i64 0, .slice none 0 0, .slice none 0 0, .slice none 0 0]) (by kernel_rfl) rfl (by kernel_rfl) ?_)
    | fail)
  obtain ⟨q2, w3, hgE, hwE, hbE, hkE⟩ := boxed w2 #[.int .i64 0, .int .i64 0, .int .i64 0, .int .i64 0, .int .i64 0, .int .i64 0, .bool false, .int .i64 0, .int .i64 0, .int .i64 0, .int .i64 0, .slice none 0 0, .int .i64 0, .int .i64 0, .slice none 0 0, .slice none 0 0, .int .i64 0, .int .i64 0, .int .i64 0, .int .i64 0, .int .i64 0, .slice none 0 0, .slice none 0 0, .slice none 0 0] #[.int .i64 0, .int .i64 0, .int .i64 0, .int .i64 0, .int .i64 0, .int .i64 0, .bool false, .int .i64 0, .int .i64 0, .int .i64 0, .int .i64 0, .slice none 0 0, .int .i64 0, .int .i64 0, .slice none 0 0, .slice none 0 0, .int .i64 0, .int .i64 0, .int .i64 0, .int .i64 0, .int .i64 0, .slice none 0 0, .slice none 0 0, .slice none 0 0] 31
  rw [hgE, hwE]
  have HG := Lib.hid (HG.out.below hbE)
  clear hgE hwE hbE hkE
  go_wp2_with fail
  refine (gtake_any (a := GA.zero) (m := { Mg.zero with kind := 2, frm := 0, view := 9, inst := 0, len := 0, has := true }) (r := true) (g2 := gA1) HG.out (by decide) ⟨by decide, by decide⟩ (by kernel_rfl) (by kernel_rfl)).mono ?_
  rintro e w4 ⟨rfl, S4, hg, ha⟩
  clear HG
  have HG := Lib.hid hg
  clear hg ha
  go_wp2_with fail
  refine (gtake_any (a := GA.zero) (m := { Mg.zero with kind := 2, frm := 0, view := 9, inst := 0, len := 0, has := false }) (r := false) (g2 := gA1) HG.out (by decide) ⟨by decide, by decide⟩ (by kernel_rfl) (by kernel_rfl)).mono ?_
  rintro e w5 ⟨rfl, S5, hg, ha⟩
  clear HG
  have HG := Lib.hid hg
  clear hg ha
  go_wp2_with fail
  refine (gabsent_any (l := [2]) HG.out (by decide +kernel)).mono ?_
  rintro e w6 ⟨A6, c6, rfl, ho, hB, hb⟩
  have HG := Lib.hid (HG.out.below hb)
  have HO6 : Hid (OwnI w5 w6 A6 1 c6 [2]) := Lib.hid ho
  clear ho hB hb
  go_wp2_with fail
  have C1 := gcommit_any (g2 := gA2) HG.out (by kernel_rfl)
  rw [show msgV GA.zero gA2.msg = .agg #[.int .i64 3, .int .i64 1, .int .i64 0, .int .i64 9, .int .i64 0, .int .i64 0, .bool false, .int .i64 3, .int .i64 0, .int .i64 0, .int .i64 0, .slice none 0 0, .int .i64 0, .int .i64 0, .slice none 0 0, .slice none 0 0, .int .i64 0, .int .i64 0, .int .i64 0, .int .i64 0, .int .i64 0, .slice none 0 0, .slice none 0 0, .slice none 0 0] from rfl, show gA2.com.isSome = true from rfl] at C1
  refine C1.mono ?_
  rintro e w7 ⟨rfl, S7, hg, ha⟩
  have HO6 := Lib.hid (own_advG HO6.out HG.out ha (by decide))
  clear HG C1
  have HG := Lib.hid hg
  clear hg ha
  go_upto_region 9 with (first
    | (refine wpList_store_row rfl 31 (.tmp 7) (.tmp 34) rfl w7.heap.size #[.int .i64 3, .int .i64 1, .int .i64 0, .int .i64 9, .int .i64 0, .int .i64 0, .bool false, .int .i64 3, .int .i64 0, .int .i64 0, .int .i64 0, .slice none 0 0, .int .i64 0, .int .i64 0, .slice none 0 0, .slice none 0 0, .int .i64 0, .int .i64 0, .int .i64 0, .int .i64 0, .int .i64 0, .slice none 0 0, .slice none 0 0, .slice none 0 0] rfl rfl 31 #[.int .i64 0, .int .i64 0, .int .i64 0, .int .i64 0, .int .i64 0, .int .i64 0, .bool false, .int .i64 0, .int .i64 0, .int .i64 0, .int .i64 0, .slice none 0 0, .int .i64 0, .int .i64 0, .slice none 0 0, .slice none 0 0, .int .i64 0, .int .i64 0, .int .i64 0, .int .i64 0, .int .i64 0, .slice none 0 0, .slice none 0 0, .slice none 0 0] (Blk.new w7 31 #[.int .i64 0, .int .i64 0, .int .i64 0, .int .i64 0, .int .i64 0, .int .i64 0, .bool false, .int .i64 0, .int .i64 0, .int .i64 0, .int .i64 0, .slice none 0 0, .int .i64 0, .int .i64 0, .slice none 0 0, .slice none 0 0, .int .i64 0, .int .i64 0, .int .i64 0, .int .i64 0, .int .i64 0, .slice none 0 0, .slice none 0 0, .slice none 0 0]) (by kernel_rfl) rfl (by kernel_rfl) ?_)
    | fail)
  obtain ⟨q7, w8, hgE, hwE, hbE, hkE⟩ := boxed w7 #[.int .i64 0, .int .i64 0, .int .i64 0, .int .i64 0, .int .i64 0, .int .i64 0, .bool false, .int .i64 0, .int .i64 0, .int .i64 0, .int .i64 0, .slice none 0 0, .int .i64 0, .int .i64 0, .slice none 0 0, .slice none 0 0, .int .i64 0, .int .i64 0, .int .i64 0, .int .i64 0, .int .i64 0, .slice none 0 0, .slice none 0 0, .slice none 0 0] #[.int .i64 3, .int .i64 1, .int .i64 0, .int .i64 9, .int .i64 0, .int .i64 0, .bool false, .int .i64 3, .int .i64 0, .int .i64 0, .int .i64 0, .slice none 0 0, .int .i64 0, .int .i64 0, .slice none 0 0, .slice none 0 0, .int .i64 0, .int .i64 0, .int .i64 0, .int .i64 0, .int .i64 0, .slice none 0 0, .slice none 0 0, .slice none 0 0] 31
  rw [hgE, hwE]
  have HV : Hid (VarA w8 S7 q7 #[.int .i64 3, .int .i64 1, .int .i64 0, .int .i64 9, .int .i64 0, .int .i64 0, .bool false, .int .i64 3, .int .i64 0, .int .i64 0, .int .i64 0, .slice none 0 0, .int .i64 0, .int .i64 0, .slice none 0 0, .slice none 0 0, .int .i64 0, .int .i64 0, .int .i64 0, .int .i64 0, .int .i64 0, .slice none 0 0, .slice none 0 0, .slice none 0 0]) := Lib.hid (VarA.new HG.out hgE hkE)
  have HG := Lib.hid (HG.out.below hbE)
  have HO6 := Lib.hid (ownsRow_below HO6.out hbE)
  clear hgE hwE hbE hkE
  go_wp2_with fail
  refine (gtake_any (a := GA.zero) (m := { Mg.zero with kind := 2, frm := 2, view := 9, inst := 0, len := 0, has := false }) (r := false) (g2 := gA2) HG.out (by decide) ⟨by decide, by decide⟩ (by kernel_rfl) (by kernel_rfl)).mono ?_
  rintro e w9 ⟨rfl, S9, hg, ha⟩
  have HO6 := Lib.hid (own_advG HO6.out HG.out ha (by decide))
  have HV := Lib.hid (HV.out.adv ha)
  clear HG
  have HG := Lib.hid hg
  clear hg ha
  go_wp2_with fail
  refine (gready_any (r := true) (g2 := gA3) HG.out (z := 0) ⟨by decide, by decide⟩ (by kernel_rfl) (by kernel_rfl)).mono ?_
  rintro e w10 ⟨rfl, S10, hg, ha⟩
  have HO6 := Lib.hid (own_advG HO6.out HG.out ha (by decide))
  have HV := Lib.hid (HV.out.adv ha)
  clear HG
  have HG := Lib.hid hg
  clear hg ha
  go_wp2_with fail
  refine (gready_any (r := false) (g2 := gA3) HG.out (z := 2) ⟨by decide, by decide⟩ (by kernel_rfl) (by kernel_rfl)).mono ?_
  rintro e w11 ⟨rfl, S11, hg, ha⟩
  have HO6 := Lib.hid (own_advG HO6.out HG.out ha (by decide))
  have HV := Lib.hid (HV.out.adv ha)
  clear HG
  have HG := Lib.hid hg
  clear hg ha
  go_wp2_with fail
  refine (gunr_any (l := [1]) HG.out (by decide +kernel)).mono ?_
  rintro e w12 ⟨A12, c12, rfl, ho, hB, hb⟩
  have HG := Lib.hid (HG.out.below hb)
  have HV := Lib.hid (HV.out.below hb)
  have HO6 := Lib.hid (ownsRow_below HO6.out hb)
  have HO12 : Hid (OwnI w11 w12 A12 1 c12 [1]) := Lib.hid ho
  clear ho hB hb
  go_wp2_with fail
  refine (gready_any (r := true) (g2 := gA4) HG.out (z := 1) ⟨by decide, by decide⟩ (by kernel_rfl) (by kernel_rfl)).mono ?_
  rintro e w13 ⟨rfl, S13, hg, ha⟩
  have HO6 := Lib.hid (own_advG HO6.out HG.out ha (by decide))
  have HO12 := Lib.hid (own_advG HO12.out HG.out ha (by decide))
  have HV := Lib.hid (HV.out.adv ha)
  clear HG
  have HG := Lib.hid hg
  clear hg ha
  go_wp2_with fail
  refine (same_any _ A6 (some ⟨w13.heap.size, 0, none⟩) 1 c6 1 1 (w13.heap.size) (w13.heap.size + 1) [2] [2] ((Rd.own_ HO6.out).alloc (Nat.le_refl _) _) (Rd.made w13 #[.int .i64 2] 3 (0, 0) 1 rfl) (by decide) (by decide)).mono ?_
  rw [show decide (([2] : List Int) = [2]) = true by decide]
  rintro e w14 ⟨rfl, k14, hw14⟩
  have hb : Below w13.heap.size w13 w14 := by rw [hw14]; exact ((Below.refl _ _).alloc (Nat.le_refl _) _).trans ⟨rfl, rfl, rfl, Nat.le_refl _, fun _ _ => rfl⟩
  have HV := Lib.hid (HV.out.below hb)
  have HG := Lib.hid (HG.out.below hb)
  have HO12 := Lib.hid (ownsRow_below HO12.out hb)
  clear hb hw14 HO6
  have v0 := HV.out.blk.cell 0
  have v1 := HV.out.blk.cell 1
  have v3 := HV.out.blk.cell 3
  have v7 := HV.out.blk.cell 7
  have v8 := HV.out.blk.cell 8
  simp at v0 v1 v3 v7 v8
  go_wp2_with fail
  refine (same_any _ A12 (some ⟨w14.heap.size, 0, none⟩) 1 c12 1 1 (w14.heap.size) (w14.heap.size + 1) [1] [1] ((Rd.own_ HO12.out).alloc (Nat.le_refl _) _) (Rd.made w14 #[.int .i64 1] 3 (0, 0) 1 rfl) (by decide) (by decide)).mono ?_
  rw [show decide (([1] : List Int) = [1]) = true by decide]
  rintro e w15 ⟨rfl, k15, hw15⟩
  have hb : Below w14.heap.size w14 w15 := by rw [hw15]; exact ((Below.refl _ _).alloc (Nat.le_refl _) _).trans ⟨rfl, rfl, rfl, Nat.le_refl _, fun _ _ => rfl⟩
  have HG := Lib.hid (HG.out.below hb)
  clear hb hw15 HO12 HV v0 v1 v3 v7 v8
  go_wp2_with fail
  refine (gdone_any (r := true) HG.out (by kernel_rfl)).mono ?_
  rintro e w16 ⟨rfl, hb⟩
  have HG := Lib.hid (HG.out.below hb)
  clear hb
  go_wp2_with fail
  refine (gall_any (r := false) HG.out (by kernel_rfl)).mono ?_
  rintro e w17 ⟨rfl, hb⟩
  have HG := Lib.hid (HG.out.below hb)
  clear hb
  go_wp2_with fail
  go_ret
  exact ⟨rfl, HG.out.bel⟩
end Go.Proofs.Ytneehnoolhadbaa

namespace Go.Proofs.Ytneehnoolhadbaa
open Go.RowKit
theorem refSame11_eq (w : World) {a a' : GA} {m m' : Mg} {B B' : Nat} (_hEq : m = m') (hM : m.Wide) (hM' : m'.Wide) (h : RdG w B a m) (h' : RdG w B' a' m') : Calls Try.prog 23 #[msgV a m, msgV a' m'] w fun e w' => e = .returned (.bool (decide (m = m'))) ∧ Below w.heap.size w w' := refSame11 w hM hM' h h'
end Go.Proofs.Ytneehnoolhadbaa

