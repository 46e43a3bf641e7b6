/- TknCode2 -/
import Derived.Test.YtbgagmpifaakgaaTF31
namespace Go.Proofs.Ytbgagmpifaakgaa
open Go.RowKit
set_option linter.unusedVariables false
theorem iv_snoc17 (l : List Int) (z : Int) : iv (l ++ [z]) = iv l ++ [.int .i64 z] := by simp [iv]
/-- two rows of integers, apart -/
def PartsI (W w : World) (l r : List Int) (e : Ending) (w' : World) : Prop := ∃ A c A' c', e = .returned (.tuple #[.slice A l.length c, .slice A' r.length c']) ∧ Rows2T W.heap.size w' (.slice A l.length c) (.slice A' r.length c') l.length r.length (iv l) (iv r) ∧ Below W.heap.size W w' ∧ Below w.heap.size w w'
set_option maxHeartbeats 2000000 in
set_option maxRecDepth 100000 in
theorem parted17 {w : World} {A A2 : Option Addr} {n c n2 c2 B B2 : Nat} {l has : List Int} (h : Rd w B A n (iv l)) (h2 : Rd w B2 A2 n2 (iv has)) (hn : n ≤ 1000) (hn2 : n2 ≤ 12) :
    Calls Try.prog 17 #[.slice A n c, .slice A2 n2 c2] w (PartsI w w (Tk.inn l has) (Tk.out l has)) := by
  obtain ⟨g, hg⟩ : ∃ g, w.heap.size = g := ⟨_, rfl⟩
  obtain ⟨wx, hwx⟩ : ∃ wx, w.alloc (.cells #[.slice A2 n2 c2] 22) = wx := ⟨_, rfl⟩
  have hbb : Below w.heap.size w wx := by rw [← hwx]; exact (Below.refl _ _).alloc (Nat.le_refl _) _
  have k1 : Blk wx g 22 #[.slice A2 n2 c2] := by rw [← hwx, ← hg]; exact Blk.new _ _ _
  have CS := Lib.hid (sorted_any g k1 (h2.fit.below hbb).fit hn2)
  have HR := Lib.hid h.fit
  have HB := Lib.hid hbb
  have HL := Lib.hid (show l.length = n by have := h.1; rwa [iv_length] at this)
  have HWX := Lib.hid hwx
  have HG := Lib.hid hg
  have HN2 := Lib.hid (show has.length = n2 by have := h2.1; rwa [iv_length] at this)
  clear h h2 hbb k1 hwx hg
  go_enter Try.func17, Try.ntmps17
  go_wp2_with fail
  refine (values_any _ _ _ _).mono ?_
  rintro e w1 ⟨rfl, rfl⟩
  rw [HG.out, HWX.out]
  go_wp2_with fail
  refine CS.out.mono ?_
  rintro e w2 ⟨As, cs, ls, rfl, ho, hp, hso, hb1, hb2⟩
  have HO := Lib.hid ho
  have HP := Lib.hid hp
  have HSO := Lib.hid hso
  have HB2 := Lib.hid (HB.out.trans (hb2.mono HB.out.size))
  have HSL := Lib.hid (show ls.length ≤ 12 by have := hp.length_eq; have := HN2.out; omega)
  have HRs := Lib.hid (Rd.own_ ho)
  clear ho hp hso hb1 hb2 CS
  go_wp2_with fail
  go_loopw [4, 5, 16] (fun s4 s5 s16 wr => ∃ (k : Nat) (Ai Ao : Option Addr) (ci co ni no : Nat), k ≤ n ∧ s16 = .int .i64 (k : Int) ∧ s4 = .slice Ai ni ci ∧ s5 = .slice Ao no co ∧ ni ≤ 1000 ∧ no ≤ 1000 ∧ Hid (Rows2T w2.heap.size wr (.slice Ai ni ci) (.slice Ao no co) ni no (iv (Tk.inn (l.take k) has)) (iv (Tk.out (l.take k) has))) ∧ Hid (Below w2.heap.size w2 wr)) (fun _ _ s16 _ => n - (intOf s16).toNat)
  case atStart => exact ⟨0, none, none, 0, 0, 0, 0, by omega, rfl, rfl, rfl, by omega, by omega, Lib.hid ⟨⟨rfl, .inl ⟨rfl, rfl⟩⟩, ⟨rfl, .inl ⟨rfl, rfl⟩⟩, .inl rfl⟩, Lib.hid (Below.refl _ _)⟩
  case round =>
    obtain ⟨k, Ai, Ao, ci, co, ni, no, hk, rfl, rfl, rfl, hni, hno, HR2, HBr⟩ := hrel
    by_cases hlt : k < n
    · obtain ⟨z, hz⟩ : ∃ z, l[k]? = some z := ⟨_, List.getElem?_eq_getElem (by have := HL.out; omega)⟩
      have HRr := Lib.hid ((HR.out.below HB2.out).fit.below HBr.out)
      obtain ⟨b, o, rfl, _⟩ := HRr.out.int_at hlt
      have hc := HRr.out.int_cell hlt hz
      have hwi : IntKind.i64.wrap ((k : Int) + 1) = (k : Int) + 1 := IntWalk.i64_in _ (by omega)
      have HT : Hid (l.take (k + 1) = l.take k ++ [z]) := Lib.hid (by rw [List.take_add_one, hz]; rfl)
      have CB := Lib.hid (searchI (c := cs) wr z (HRs.out.below HBr.out) (by have := HSL.out; omega) HSO.out)
      have hmem : decide (z ∈ ls) = decide (z ∈ has) := by simp only [HP.out.mem_iff]
      have hl1 : ni + no ≤ k := by
        have h1 := HR2.out.a.1; have h2 := HR2.out.b.1
        rw [iv_length] at h1 h2
        have h3 : (Tk.inn (l.take k) has).length + (Tk.out (l.take k) has).length = (l.take k).length := by unfold Tk.inn Tk.out; rw [← List.countP_eq_length_filter, ← List.countP_eq_length_filter]; exact (List.length_eq_countP_add_countP _).symm ▸ by congr 2; ext x; simp
        rw [List.length_take] at h3
        omega
      clear hz
      by_cases hin : z ∈ has
      · rw [hmem, decide_eq_true hin] at CB
        clear hmem
        go_wp2_with fail
        refine CB.out.mono ?_
        rintro e w3 ⟨⟨ix, rfl⟩, rfl⟩
        go_wp2_with (first
          | (at_builtin
             refine wpList_append_cells2T (W := w2) cellI (.tmp 27) (.tmp 29) rfl (by rfl) rfl (HR2.out.below ((Below.refl _ _).alloc (Nat.le_refl _) _)).a rfl (Rd.oneV _ _ _) (iv_one [_]) (by omega) (by omega) (HBr.out.alloc HBr.out.size _) ?_
             intro A9 c9 w9 hown9 hB9 hg9 hblk9)
          | fail)
        go_roundw
        case rel =>
          refine ⟨k + 1, A9, Ao, c9, co, ni + 1, no, by omega, by go_num, rfl, rfl, by omega, by omega, Lib.hid ?_, Lib.hid hB9⟩
          rw [HT.out, Tk.inn_snoc, Tk.out_snoc, if_pos hin, if_pos hin, List.append_nil, iv_snoc17]
          exact (HR2.out.below ((Below.refl _ _).alloc (Nat.le_refl _) _)).grow hown9 hg9 hblk9
        case measure => simp [intOf]; omega
      · rw [hmem, decide_eq_false hin] at CB
        clear hmem
        go_wp2_with fail
        refine CB.out.mono ?_
        rintro e w3 ⟨⟨ix, rfl⟩, rfl⟩
        go_wp2_with (first
          | (at_builtin
             refine wpList_append_cells2T (W := w2) cellI (.tmp 31) (.tmp 33) rfl (by rfl) rfl (HR2.out.below ((Below.refl _ _).alloc (Nat.le_refl _) _)).b rfl (Rd.oneV _ _ _) (iv_one [_]) (by omega) (by omega) (HBr.out.alloc HBr.out.size _) ?_
             intro A9 c9 w9 hown9 hB9 hg9 hblk9)
          | fail)
        go_roundw
        case rel =>
          refine ⟨k + 1, Ai, A9, ci, c9, ni, no + 1, by omega, by go_num, rfl, rfl, by omega, by omega, Lib.hid ?_, Lib.hid hB9⟩
          rw [HT.out, Tk.inn_snoc, Tk.out_snoc, if_neg hin, if_neg hin, List.append_nil, iv_snoc17]
          exact ((HR2.out.below ((Below.refl _ _).alloc (Nat.le_refl _) _)).swap.grow hown9 hg9 hblk9).swap
        case measure => simp [intOf]; omega
    · obtain rfl : k = n := by omega
      have HF : Hid (l.take k = l) := Lib.hid (List.take_of_length_le (by have := HL.out; omega))
      rw [HF.out] at HR2
      have e1 : ni = (Tk.inn l has).length := by have := HR2.out.a.1; rw [iv_length] at this; omega
      have e2 : no = (Tk.out l has).length := by have := HR2.out.b.1; rw [iv_length] at this; omega
      subst e1 e2
      have hBF : Below w.heap.size w wr := HB2.out.trans (HBr.out.mono HB2.out.size)
      have hR9 : Rows2T w.heap.size wr (.slice Ai (Tk.inn l has).length ci) (.slice Ao (Tk.out l has).length co) _ _ (iv (Tk.inn l has)) (iv (Tk.out l has)) := ⟨own_of HB2.out.size HR2.out.a, own_of HB2.out.size HR2.out.b, HR2.out.ap⟩
      have HFF := Lib.hid (And.intro hR9 hBF)
      clear hR9 hBF
      go_wp2_with fail
      go_ret2
      exact ⟨Ai, ci, Ao, co, rfl, HFF.out.1, HFF.out.2, HFF.out.2⟩
end Go.Proofs.Ytbgagmpifaakgaa

