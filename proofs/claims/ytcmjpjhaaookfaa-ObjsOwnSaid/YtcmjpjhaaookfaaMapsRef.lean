/- The contracts of the document's own answer for a map. -/
import Derived.Test.YtcmjpjhaaookfaaPairKit
import Derived.Test.YtcmjpjhaaookfaaRef4Kit
import Derived.Test.YtcmjpjhaaookfaaOwnrefKit
import Derived.Test.YtcmjpjhaaookfaaMapsMath
import Derived.Deep.RegionLaw
import Derived.Deep.RegionWith
import Derived.Deep.QuietTactic
import Derived.BigQuiet
namespace Go.Proofs.Ytcmjpjhaaookfaa
open Go.RowKit
set_option linter.unusedVariables false
set_option maxHeartbeats 2000000 in
set_option maxRecDepth 100000 in
theorem refPairs_raw (ps : List Pr) (A : Option Addr) (n c B : Nat) (hn : n ≤ 100000) (hL : LimP ps) (w : World) (hr : RdP w B A n ps) :
    Calls Try.prog 48 #[.slice A n c] w (GotP w w ps) := by
  have HL := Lib.hid hL
  have HR := Lib.hid hr.fit
  have hlen := hr.length
  clear hr hL
  go_enter Try.func48, Try.ntmps48
  go_wp2_with fail
  go_loopw [3, 4] (fun s3 s4 wr => ∃ (k c' : Nat) (A' : Option Addr), k ≤ n ∧ s4 = .int .i64 (k : Int) ∧ s3 = .slice A' k c' ∧ Hid (OwnP w wr A' k c' (ps.take k)) ∧ Hid (Below w.heap.size w wr)) (fun _ s4 _ => n - (intOf s4).toNat)
  case atStart => exact ⟨0, 0, none, Nat.zero_le _, rfl, rfl, Lib.hid (by simpa using OwnP.nil w w), Lib.hid (Below.refl _ _)⟩
  case round =>
    obtain ⟨k, c', A', hk, rfl, rfl, HO, HB⟩ := hrel
    by_cases hlt : k < n
    · obtain ⟨b, o, p, A1, c1, A2, c2, rfl, hp, hcell1, hcell2, hrd1, hrd2⟩ := ((HR.out.below HB.out).fit).at hlt
      have hl1 : Lim 0 p.1.length := (HL.out p (List.mem_of_getElem? hp)).1
      have hl2 : Lim 0 p.2.length := (HL.out p (List.mem_of_getElem? hp)).2
      have hblt1 := World.block_lt_of_cell? _ _ hcell1
      have HC : Hid (∀ wx, Below wr.heap.size wr wx → wx.cell? ⟨b, o + k * 2, none⟩ = some (.slice A1 p.1.length c1) ∧ wx.cell? ⟨b, o + k * 2 + 1, none⟩ = some (.slice A2 p.2.length c2)) := Lib.hid (fun wx hb => ⟨(hb.cell (p := ⟨b, o + k * 2, none⟩) hblt1).trans hcell1, (hb.cell (p := ⟨b, o + k * 2 + 1, none⟩) hblt1).trans hcell2⟩)
      have HRD1 := Lib.hid hrd1
      have HRD2 := Lib.hid hrd2
      have HP := Lib.hid hp
      clear hrd1 hrd2 hp
      go_upto_region 5 with fail
      have hc0 := HC.out wr.drew (Below.refl _ _).drew
      obtain ⟨hcA, hcB⟩ := hc0
      go_region_law (first
        | (refine step_append_S (W := w) cellP (.tmp 11) (.tmp 25) rfl rfl (by rfl) (ownsRow_below hv1 ((Below.refl _ _).alloc (Nat.le_refl _) _)) (by rfl) (Rd.twoAt _ _ _ _ rfl) (by intro u hu; simp at hu; rcases hu with rfl | rfl <;> rfl) (by omega) (by omega) (hB2.alloc hB2.size _) ?_
           intro A3 c3 w3 hown3 hB3 hg3)
        | (rw [if_pos (by kernel_rfl)]; go_simp; go_at_call_of 46 A1; refine (ownref_any (W := w) hl1 HRD1.out.drew HB.out.drew).mono ?_; rintro e w1 ⟨A4, c4, rfl, ho1, hB1, hb1⟩; obtain ⟨hcA, hcB⟩ := HC.out w1 ((Below.refl _ _).drew.trans hb1); go_simp)
        | (rw [if_pos (by kernel_rfl)]; go_simp; go_at_call_of 46 A2; refine (ownref_any (W := w) hl2 (HRD2.out.below ((Below.refl _ _).drew.trans hb1)) hB1).mono ?_; rintro e w2 ⟨A5, c5, rfl, ho2, hB2, hb2⟩; have ho1 := own_below ho1 hb2; obtain ⟨vs, hv1, hv2⟩ := (HO.out.below ((Below.refl _ _).drew.trans hb1)).below hb2; go_simp))
      all_goals go_wp2_with fail
      all_goals go_roundw
      all_goals first
        | (simp only [intOf]; omega)
        | (refine ⟨k + 1, c3, A3, by omega, by go_num, rfl, Lib.hid ?_, Lib.hid hB3⟩
           have b1 : Below w2.heap.size w2 (w2.alloc (.cells #[.slice A4 p.1.length c4, .slice A5 p.2.length c5] 42)) := (Below.refl _ _).alloc (Nat.le_refl _) _
           refine ⟨vs ++ [.slice A4 p.1.length c4, .slice A5 p.2.length c5], hown3, ?_⟩
           rw [List.take_add_one, HP.out, flat_append]
           exact ((hv2.two ho1 ho2).below b1).grownP (ownsRow_below hv1 b1) hg3)
    · obtain rfl : k = n := by omega
      go_wp2_with fail
      go_ret
      have HO2 := HO.out
      rw [List.take_of_length_le (by omega)] at HO2
      subst hlen
      exact ⟨A', c', rfl, HO2, HB.out, HB.out⟩
theorem refPairs_any {W w : World} {ps : List Pr} {A : Option Addr} {n c B : Nat} (hn : n ≤ 100000) (hL : LimP ps) (hr : RdP w B A n ps) (hB : Below W.heap.size W w) :
    Calls Try.prog 48 #[.slice A n c] w (GotP W w ps) :=
  (refPairs_raw ps A n c B hn hL w hr).mono fun e w' h => GotP.of hB h
theorem keys_at {ps : List Pr} {k : Nat} {p : Pr} (h : ps[k]? = some p) : (Mp.keys ps)[k]? = some p.1 := by unfold Mp.keys; rw [List.getElem?_map, h]; rfl
theorem keys_length (ps : List Pr) : (Mp.keys ps).length = ps.length := by simp [Mp.keys]
theorem belowN_ {B : Nat} {a w : World} (h : Below B a w) (k : Nat) : Below B a (w.drewN k) := h.trans ⟨rfl, rfl, rfl, Nat.le_refl _, fun _ _ => rfl⟩
set_option maxHeartbeats 1000000 in
theorem refKey_any (w : World) {A A' : Option Addr} {n c n' c' B B' : Nat} {ps : List Pr} {k : List Nat} (hn : n ≤ 100000) (hb : BytesP ps) (hbk : ∀ x ∈ k, x < 256) (h : RdP w B A n ps) (h' : Rd w B' A' n' (bv k)) :
    Calls Try.prog 93 #[.slice A n c, .slice A' n' c'] w fun e w' => e = .returned (.int .i64 (Mp.place (Mp.keys ps) k)) ∧ ∃ m, w' = w.drewN m := by
  have HL := Lib.hid h.length
  have H := Lib.hid h.fit
  have H' := Lib.hid h'.fit
  have HB := Lib.hid hb
  have HBK := Lib.hid hbk
  clear h h' hb hbk
  go_enter Try.func93, Try.ntmps93
  go_wp2
  go_loopw [5] (fun i wr => ∃ j : Nat, j ≤ n ∧ i = .int .i64 j ∧ Hid (∀ i, i < j → (Mp.keys ps)[i]? ≠ some k) ∧ ∃ m, wr = w.drewN m) (fun i _ => n - (intOf i).toNat)
  case atStart => exact ⟨0, Nat.zero_le _, rfl, Lib.hid (fun j hj => absurd hj (by omega)), 0, rfl⟩
  case round =>
    obtain ⟨j, hj, rfl, HS, m, hm⟩ := hrel
    have HM := Lib.hid hm
    by_cases hlt : j < n
    · obtain ⟨b, o, p, A1, c1, A2, c2, rfl, hp, hcell1, _, hrd1, _⟩ := H.out.at hlt
      have hc1 : wr.cell? ⟨b, o + j * 2, none⟩ = some (.slice A1 p.1.length c1) := by rw [hm]; exact hcell1
      have hv : IntKind.i64.wrap ((j : Int) + 1) = (j : Int) + 1 := IntWalk.i64_in _ (by omega)
      have hs1 : ∀ q, (convert 22 9 (.slice A1 p.1.length c1)).run Try.prog (wr.drewN q) = .ok (.string (strB p.1)) (wr.drewN q) := fun q => by rw [hm]; exact str_of (c := c1) ((hrd1.drewN m).drewN q)
      have hs2 : ∀ q, (convert 22 9 (.slice A' n' c')).run Try.prog (wr.drewN q) = .ok (.string (strB k)) (wr.drewN q) := fun q => by rw [hm]; exact str_of (c := c') ((H'.out.drewN m).drewN q)
      have hs3 := strL_eq (HB.out p (List.mem_of_getElem? hp)).1 HBK.out
      have HP := Lib.hid hp
      clear hp hcell1 hrd1 hm
      by_cases he : p.1 = k
      · have HE := Lib.hid (Mp.place_first (by rw [keys_at HP.out, he]) HS.out)
        rw [decide_eq_true he] at hs3
        clear he
        go_wp2
        go_quiet (fail)
        go_wp2
        go_ret
        exact ⟨ret_int HE.out.symm, m + nq, by rw [HM.out, World.drewN_drewN]⟩
      · rw [decide_eq_false he] at hs3
        have HNE := Lib.hid he
        clear he
        go_wp2
        go_quiet (fail)
        go_wp2
        go_roundw
        case rel =>
          refine ⟨j + 1, by omega, by go_num, Lib.hid (fun i hi => ?_), m + nq, by rw [HM.out, World.drewN_drewN]⟩
          rcases Nat.lt_or_ge i j with h1 | h1
          · exact HS.out i h1
          · obtain rfl : i = j := by omega
            rw [keys_at HP.out]
            intro h; injection h with h; exact HNE.out h
        case measure => simp [intOf]; omega
    · obtain rfl : j = n := by omega
      have HP := Lib.hid (Mp.place_none (s := Mp.keys ps) (x := k) (by rw [keys_length, HL.out]; exact HS.out))
      clear hm
      go_wp2
      go_ret
      exact ⟨ret_int HP.out.symm, m, HM.out⟩
end Go.Proofs.Ytcmjpjhaaookfaa
