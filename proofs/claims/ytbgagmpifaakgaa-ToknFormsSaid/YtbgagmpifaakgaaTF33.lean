/- TknCode3 -/
import Derived.Test.YtbgagmpifaakgaaTF32
namespace Go.Proofs.Ytbgagmpifaakgaa
open Go.RowKit
set_option linter.unusedVariables false
set_option maxHeartbeats 2000000 in
set_option maxRecDepth 100000 in
theorem needed17 {w : World} {A A2 : Option Addr} {n c n2 c2 B B2 : Nat} {l r : List Int} (s : Int) {R : List Int} (hR : Tk.need l r s = R) (h : Rd w B A n (iv l)) (h2 : Rd w B2 A2 n2 (iv r)) (hn : n ≤ 1000) (hn2 : n2 ≤ 1000) :
    Calls Try.prog 18 #[.slice A n c, .slice A2 n2 c2, .int .i64 s] w (GotI w w R) := by
  have HR := Lib.hid h.fit
  have HR2 := Lib.hid h2.fit
  have HE := Lib.hid hR
  have HL := Lib.hid (show l.length = n by have := h.1; rwa [iv_length] at this)
  have HL2 := Lib.hid (show r.length = n2 by have := h2.1; rwa [iv_length] at this)
  clear h h2 hR
  go_enter Try.func18, Try.ntmps18
  go_wp2_with fail
  go_loopw [7, 14] (fun s7 s14 wr => ∃ (k : Nat) (Ai : Option Addr) (ci ni : Nat), k ≤ n ∧ s14 = .int .i64 (k : Int) ∧ s7 = .slice Ai ni ci ∧ ni ≤ 8 ∧ Hid (OwnI w wr Ai ni ci (Tk.needA s [] (l.take k))) ∧ Hid (Below w.heap.size w wr)) (fun _ s14 _ => n - (intOf s14).toNat)
  case atStart => exact ⟨0, none, 0, 0, by omega, rfl, rfl, by omega, Lib.hid (ownI_nil _ _), Lib.hid (Below.refl _ _)⟩
  case round =>
    obtain ⟨k, Ai, ci, ni, hk, rfl, rfl, hni, HO, HB⟩ := hrel
    by_cases hlt : k < n
    · obtain ⟨z, hz⟩ : ∃ z, l[k]? = some z := ⟨_, List.getElem?_eq_getElem (by have := HL.out; omega)⟩
      have HRr := Lib.hid (HR.out.below HB.out)
      obtain ⟨b, o, rfl, _⟩ := HRr.out.int_at hlt
      have hc := HRr.out.int_cell hlt hz
      have hwi : IntKind.i64.wrap ((k : Int) + 1) = (k : Int) + 1 := IntWalk.i64_in _ (by omega)
      have HT : Hid (Tk.needA s [] (l.take (k + 1)) = if z > s ∧ (Tk.needA s [] (l.take k)).length < 8 then Tk.needA s [] (l.take k) ++ [z] else Tk.needA s [] (l.take k)) := Lib.hid (by rw [List.take_add_one, hz]; exact Tk.needA_snoc _ _ _ _)
      have HNL := Lib.hid (ownI_len HO.out)
      clear hz
      by_cases hin : s < z
      · by_cases h8 : ni < 8
        · have h8' : (ni : Int) < 8 := by omega
          go_wp2_with (first
            | (at_builtin
               refine wpList_append_cells (W := w) cellI (.tmp 26) (.tmp 28) rfl (by rfl) rfl (ownsRow_below HO.out ((Below.refl _ _).alloc (Nat.le_refl _) _)) rfl (Rd.oneV _ _ _) (iv_one [_]) (by omega) (by omega) (HB.out.alloc HB.out.size _) ?_
               intro A9 c9 w9 hown9 hB9 hg9)
            | fail)
          go_roundw
          case rel =>
            refine ⟨k + 1, A9, c9, ni + 1, by omega, by go_num, rfl, by omega, Lib.hid ?_, Lib.hid hB9⟩
            rw [HT.out, if_pos ⟨hin, by have := HNL.out; omega⟩]
            unfold OwnI
            rw [iv_snoc17]
            exact hown9
          case measure => simp [intOf]; omega
        · have h8' : ¬ (ni : Int) < 8 := by omega
          go_wp2_with fail
          go_roundw
          case rel =>
            refine ⟨k + 1, Ai, ci, ni, by omega, by go_num, rfl, by omega, Lib.hid ?_, HB⟩
            rw [HT.out, if_neg (fun h => by have := HNL.out; omega)]
            exact HO.out
          case measure => simp [intOf]; omega
      · go_wp2_with fail
        go_roundw
        case rel =>
          refine ⟨k + 1, Ai, ci, ni, by omega, by go_num, rfl, by omega, Lib.hid ?_, HB⟩
          rw [HT.out, if_neg (fun h => hin h.1)]
          exact HO.out
        case measure => simp [intOf]; omega
    · obtain rfl : k = n := by omega
      have HF : Hid (l.take k = l) := Lib.hid (List.take_of_length_le (by have := HL.out; omega))
      rw [HF.out] at HO
      obtain rfl : (Tk.needA s [] l).length = ni := ownI_len HO.out
      have HOA := Lib.hid HO.out
      have HLA := Lib.hid (Tk.needA_len s l [] (by simp))
      obtain ⟨aa, haa⟩ : ∃ x, Tk.needA s [] l = x := ⟨_, rfl⟩
      have HEB : Hid (Tk.needB s aa r = R) := Lib.hid (by rw [← HE.out, ← haa]; rfl)
      rw [haa] at HOA HLA ⊢
      obtain ⟨na, hna⟩ : ∃ x, aa.length = x := ⟨_, rfl⟩
      rw [hna] at HOA HLA ⊢
      have hna8 : na ≤ 8 := HLA.out
      clear haa HO HE HF
      go_wp2_with fail
      go_loopw [7, 33] (fun s7 s33 wr => ∃ (k : Nat) (Ai : Option Addr) (ci ni : Nat), k ≤ n2 ∧ s33 = .int .i64 (k : Int) ∧ s7 = .slice Ai ni ci ∧ ni ≤ 8 ∧ Hid (OwnI w wr Ai ni ci (Tk.needB s aa (r.take k))) ∧ Hid (Below w.heap.size w wr)) (fun _ s33 _ => n2 - (intOf s33).toNat)
      case atStart => exact ⟨0, Ai, ci, na, by omega, rfl, rfl, hna8, HOA, HB⟩
      case round =>
        clear HB HOA
        obtain ⟨q, Aj, cj, nj, hq, rfl, rfl, hnj, HO, HB⟩ := hrel
        by_cases hlt2 : q < n2
        · obtain ⟨z, hz⟩ : ∃ z, r[q]? = some z := ⟨_, List.getElem?_eq_getElem (by have := HL2.out; omega)⟩
          have HRr := Lib.hid (HR2.out.below HB.out)
          obtain ⟨b, o, rfl, _⟩ := HRr.out.int_at hlt2
          have hc := HRr.out.int_cell hlt2 hz
          have hwi : IntKind.i64.wrap ((q : Int) + 1) = (q : Int) + 1 := IntWalk.i64_in _ (by omega)
          have HNL := Lib.hid (ownI_len HO.out)
          obtain ⟨acc, hacc⟩ : ∃ x, Tk.needB s aa (r.take q) = x := ⟨_, rfl⟩
          rw [hacc] at HO HNL
          have HT : Hid (Tk.needB s aa (r.take (q + 1)) = if z > s ∧ acc.length < 8 ∧ z ∉ acc then acc ++ [z] else acc) := Lib.hid (by rw [← hacc, List.take_add_one, hz]; exact Tk.needB_snoc _ _ _ _)
          have CC := Lib.hid (contains_any (c := cj) wr z (Rd.own_ HO.out) (by unfold maxLen; omega))
          clear hz hacc
          by_cases hin : s < z
          · by_cases h8 : nj < 8
            · have h8' : (nj : Int) < 8 := by omega
              by_cases hm : z ∈ acc
              · rw [decide_eq_true hm] at CC
                go_wp2_with (first
                  | (go_at_call 29; refine CC.out.mono ?_; rintro e w9 ⟨rfl, rfl⟩)
                  | fail)
                go_roundw
                case rel =>
                  refine ⟨q + 1, Aj, cj, nj, by omega, by go_num, rfl, by omega, Lib.hid ?_, HB⟩
                  rw [HT.out, if_neg (fun h => h.2.2 hm)]
                  exact HO.out
                case measure => simp [intOf]; omega
              · have HM := Lib.hid hm
                rw [decide_eq_false hm] at CC
                clear hm
                go_wp2_with (first
                  | (go_at_call 29; refine CC.out.mono ?_; rintro e w9 ⟨rfl, rfl⟩)
                  | (at_builtin
                     refine wpList_append_cells (W := w) cellI (.tmp 51) (.tmp 53) rfl (by rfl) rfl (ownsRow_below HO.out ((Below.refl _ _).alloc (Nat.le_refl _) _)) rfl (Rd.oneV _ _ _) (iv_one [_]) (by omega) (by omega) (HB.out.alloc HB.out.size _) ?_
                     intro A9 c9 w9 hown9 hB9 hg9)
                  | fail)
                go_roundw
                case rel =>
                  refine ⟨q + 1, A9, c9, nj + 1, by omega, by go_num, rfl, by omega, Lib.hid ?_, Lib.hid hB9⟩
                  rw [HT.out, if_pos ⟨hin, by have := HNL.out; omega, HM.out⟩]
                  unfold OwnI
                  rw [iv_snoc17]
                  exact hown9
                case measure => simp [intOf]; omega
            · have h8' : ¬ (nj : Int) < 8 := by omega
              go_wp2_with fail
              go_roundw
              case rel =>
                refine ⟨q + 1, Aj, cj, nj, by omega, by go_num, rfl, by omega, Lib.hid ?_, HB⟩
                rw [HT.out, if_neg (fun h => by have := HNL.out; omega)]
                exact HO.out
              case measure => simp [intOf]; omega
          · go_wp2_with fail
            go_roundw
            case rel =>
              refine ⟨q + 1, Aj, cj, nj, by omega, by go_num, rfl, by omega, Lib.hid ?_, HB⟩
              rw [HT.out, if_neg (fun h => hin h.1)]
              exact HO.out
            case measure => simp [intOf]; omega
        · obtain rfl : q = n2 := by omega
          have HF : Hid (r.take q = r) := Lib.hid (List.take_of_length_le (by have := HL2.out; omega))
          rw [HF.out, HEB.out] at HO
          obtain rfl : R.length = nj := ownI_len HO.out
          go_wp2_with fail
          go_ret
          exact ⟨Aj, cj, rfl, HO.out, HB.out, HB.out⟩
end Go.Proofs.Ytbgagmpifaakgaa

