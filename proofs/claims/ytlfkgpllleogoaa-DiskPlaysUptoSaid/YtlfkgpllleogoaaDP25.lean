/- Ref11Kit -/
import Derived.Test.YtlfkgpllleogoaaDP04
import Derived.Test.YtlfkgpllleogoaaDP07
import Derived.Test.YtlfkgpllleogoaaDP11
import Derived.Test.YtlfkgpllleogoaaDP12
import Derived.Test.YtlfkgpllleogoaaDP13
import Derived.Test.YtlfkgpllleogoaaDP14
import Derived.Test.YtlfkgpllleogoaaDP18
import Derived.Test.YtlfkgpllleogoaaDP19
import Derived.Test.YtlfkgpllleogoaaDP20
import Derived.Test.YtlfkgpllleogoaaDP21
import Derived.Test.YtlfkgpllleogoaaDP23
import Derived.Test.YtlfkgpllleogoaaDP24
import Derived.BigQuiet
import Derived.Deep.CutBlock
import Derived.Deep.DeepCutAuto
import Derived.Deep.DrawnRows
import Derived.Deep.Matrix
import Derived.Deep.QuietTactic
import Derived.Deep.RegionHeld
import Derived.Deep.RegionHeld3
import Derived.Deep.RegionLaw
import Derived.Deep.RegionWith
import Derived.IntWalk
import Derived.Laws.DeepStrings4
import Derived.OwnWalk
import Derived.ProofKit
import Derived.StillTail
import Derived.Test.YtlfkgpllleogoaaRows
import Derived.WalkKit
import Derived.WalkLawsBesides
import Derived.WalkSmall
import Derived.WalkSpells
namespace Go.Proofs.Ytlfkgpllleogoaa
open Go.RowKit
set_option linter.unusedVariables false
theorem encs_take {zs : List Int} {j : Nat} {z : Int} (h : zs[j]? = some z) : Pk.encs (zs.take (j + 1)) = Pk.encs (zs.take j) ++ Pk.enc (Pk.held z) := by
  rw [List.take_add_one, h]
  exact Pk.encs_snoc _ _
set_option maxHeartbeats 1000000 in
set_option maxRecDepth 100000 in
theorem refNums {W w : World} {A A' : Option Addr} {c n' c' B' : Nat} {l : List Nat} {zs : List Int} (ho : OwnB W w A l.length c l) (h : Rd w B' A' n' (iv zs)) (hl : l.length ≤ 1000000) (hn : n' ≤ 1000) (hB : Below W.heap.size W w) :
    Calls Try.prog 36 #[.slice A l.length c, .slice A' n' c'] w (GotIn W w (l ++ Pk.encs zs)) := by
  have hlen : zs.length = n' := by have := h.1; rwa [iv_length] at this
  have H := Lib.hid h.fit
  have HL := Lib.hid hlen
  have HO := Lib.hid ho
  have HB := Lib.hid hB
  have HLL := Lib.hid hl
  clear h hlen ho hB hl
  go_enter Try.func36, Try.ntmps36
  go_wp2
  go_loopw [0, 5] (fun b i wr => ∃ (j : Nat) (A1 : Option Addr) (c1 : Nat), j ≤ n' ∧ i = .int .i64 (j : Int) ∧ b = .slice A1 (l ++ Pk.encs (zs.take j)).length c1 ∧ Hid (OwnB W wr A1 (l ++ Pk.encs (zs.take j)).length c1 (l ++ Pk.encs (zs.take j))) ∧ Hid (Below W.heap.size W wr) ∧ Hid (Below w.heap.size w wr)) (fun _ i _ => n' - (intOf i).toNat)
  case atStart => exact ⟨0, A, c, by omega, rfl, by simp [Pk.encs], Lib.hid (by simpa [Pk.encs] using HO.out), HB, Lib.hid (Below.refl _ _)⟩
  case round =>
    obtain ⟨j, A1, c1, hj, rfl, rfl, HO1, HB1, HW1⟩ := hrel
    by_cases hlt : j < n'
    · obtain ⟨b, o, rfl, _⟩ := H.out.int_at hlt
      obtain ⟨z, hz⟩ : ∃ z, zs[j]? = some z := ⟨_, List.getElem?_eq_getElem (by have := HL.out; omega)⟩
      have hc := (H.out.below HW1.out).int_cell hlt hz
      have HE := Lib.hid (encs_take hz)
      clear hz
      have hX : (l ++ Pk.encs (zs.take j)).length ≤ 1000000 + 9 * 1000 := by
        rw [List.length_append]
        have h1 := Pk.encs_length (zs.take j)
        have h2 := HLL.out
        rw [List.length_take] at h1
        omega
      obtain ⟨X, hXX⟩ : ∃ X, l ++ Pk.encs (zs.take j) = X := ⟨_, rfl⟩
      obtain ⟨Y, hY⟩ : ∃ Y, l ++ Pk.encs (zs.take (j + 1)) = Y := ⟨_, rfl⟩
      have he : X ++ Pk.enc (Pk.held z) = Y := by rw [← hXX, ← hY, HE.out, List.append_assoc]
      rw [hXX] at HO1 hX ⊢
      have HCC : Hid (Calls Try.prog 66 #[.slice A1 X.length c1, .int .i64 z] wr (GotIn W wr Y)) := Lib.hid (refput_in he (by unfold Lim; omega) (Rd.own_ HO1.out) HB1.out)
      have HY := Lib.hid hY
      clear hX hXX hY he HE
      go_wp2_with (go_at_call 66; refine HCC.out.mono ?_; rintro e w2 ⟨A2, c2, rfl, ho2, hB2, hb2⟩; have HO2 := Lib.hid ho2; have HB2 := Lib.hid hB2; have HW2 := Lib.hid (HW1.out.trans (hb2.mono HW1.out.size)); clear ho2 hB2 hb2)
      go_roundw
      case rel =>
        refine ⟨j + 1, A2, c2, by omega, by go_num, ?_⟩
        rw [HY.out]
        exact ⟨rfl, HO2, HB2, HW2⟩
      case measure => simp [intOf]; omega
    · have HJ : Hid (zs.take j = zs) := Lib.hid (List.take_of_length_le (by have := HL.out; omega))
      rw [HJ.out] at HO1 ⊢
      obtain ⟨X, hXX⟩ : ∃ X, l ++ Pk.encs zs = X := ⟨_, rfl⟩
      have HXX := Lib.hid hXX
      rw [hXX] at HO1 ⊢
      clear hXX
      go_wp2
      go_ret
      exact ⟨A1, c1, by rw [HXX.out]; rfl, by rw [HXX.out]; exact HO1.out, HB1.out, HW1.out⟩
end Go.Proofs.Ytlfkgpllleogoaa

