/- The contracts of a window, for one type of things. -/
import Derived.Test.YteafbljdlcbckaaWindMath
import Derived.Test.YteafbljdlcbckaaWindMem
import Derived.Test.YteafbljdlcbckaaRows
import Derived.WalkKit
import Derived.ProofKit
import Derived.Below
import Derived.Outline
import Derived.IntWalk
import Derived.OwnWalk
import Derived.WalkSpells
import Derived.WalkLawsBesides
import Derived.Deep.RegionWith
import Derived.Deep.QuietTactic
import Derived.BigQuiet
import Derived.WalkSmall
namespace Go.Proofs.Yteafbljdlcbckaa.WS
open Go.RowKit
set_option linter.unusedVariables false
abbrev V := ByteArray
@[reducible] def enc (v : V) : Value := .string v
@[reducible] def zero : Value := .string ⟨#[]⟩
theorem slotT : (Try.prog.info? 73).map (fun i => (i.zero, i.size, i.bytes)) = some (some (.agg #[zero, .bool false]), 2, 24) := by kernel_rfl
theorem enc_one (v : V) : (enc v).oneCell' = true := rfl
/-- numbers far below the end of the integers -/
def Fit (n : Nat) : Prop := n ≤ 2000000000000
theorem Fit.out {n : Nat} (h : Fit n) : n ≤ 2000000000000 := h
abbrev cellsOf (ss : List (Option V)) : List Value := Wd.cells enc zero ss
theorem cells_one (ss : List (Option V)) : ∀ u ∈ cellsOf ss, u.oneCell' = true := Wd.cells_one enc zero rfl enc_one ss
/-- a window in memory: it begins behind fr, wh is its mark of what is whole, ss its slots -/
def WinR (w : World) (base b fr wh : Nat) (ss : List (Option V)) : Prop :=
  ∃ A n c, Blk w b 71 #[.int .i64 (fr : Int), .int .i64 (wh : Int), .slice A n c] ∧ OffRow w base 73 2 A n c (cellsOf ss) ∧ base ≤ b ∧ Fit (fr + n)
section
variable {w w' : World} {base b fr wh : Nat} {ss : List (Option V)}
theorem WinR.below (h : WinR w base b fr wh ss) (hb : Below w.heap.size w w') : WinR w' base b fr wh ss := by
  obtain ⟨A, n, c, h1, h2, h3⟩ := h
  exact ⟨A, n, c, h1.below hb, h2.below hb, h3⟩
theorem WinR.drewN (h : WinR w base b fr wh ss) (k : Nat) : WinR (w.drewN k) base b fr wh ss := h.below (below_drewN (Below.refl _ _) k)
theorem WinR.drew (h : WinR w base b fr wh ss) : WinR w.drew base b fr wh ss := h.below (Below.refl _ _).drew
theorem len_of {A : Option Addr} {n c : Nat} (h : OffRow w base 73 2 A n c (cellsOf ss)) : ss.length = n := by
  have := h.len
  rw [Wd.cells_length] at this
  omega
end
theorem quiet_left {P : Program} {f : FuncId} {args : Array Value} {w : World} {n : Nat} {v : Value}
    (h : Calls P f args (w.drewN n) fun e w' => e = .returned v ∧ w.drewN n = w') : Calls P f args (w.drewN n) fun e w'' => e = .returned v ∧ ∃ m, w'' = w.drewN m :=
  h.mono fun _ _ ⟨he, hm⟩ => ⟨he, n, hm.symm⟩
theorem quiet_add_left {P : Program} {f : FuncId} {args : Array Value} {w : World} {a n : Nat} {v : Value}
    (h : Calls P f args (w.drewN (a + n)) fun e w' => e = .returned v ∧ w.drewN (a + n) = w') :
    Calls P f args (w.drewN (a + n)) fun e w'' => e = .returned v ∧ ∃ m, w'' = w.drewN (a + m) :=
  h.mono fun _ _ ⟨he, hm⟩ => ⟨he, n, hm.symm⟩
theorem from_any (w : World) (base b fr wh : Nat) (ss : List (Option V)) (h : WinR w base b fr wh ss) :
    Calls Try.prog 35 #[.pointer (some ⟨b, 0, none⟩)] w fun e w' => e = .returned (.int .i64 (fr : Int)) ∧ w = w' := by
  obtain ⟨A, n, c, h1, h2, h3, h4⟩ := h
  have hc := h1.cell 0
  simp at hc
  clear h1 h2 h3 h4
  go_enter Try.func35, Try.ntmps35
  go_wp2
  go_ret
  exact ⟨rfl, rfl⟩
theorem whole_any (w : World) (base b fr wh : Nat) (ss : List (Option V)) (h : WinR w base b fr wh ss) :
    Calls Try.prog 33 #[.pointer (some ⟨b, 0, none⟩)] w fun e w' => e = .returned (.int .i64 (wh : Int)) ∧ w = w' := by
  obtain ⟨A, n, c, h1, h2, h3, h4⟩ := h
  have hc := h1.cell 1
  simp at hc
  clear h1 h2 h3 h4
  go_enter Try.func33, Try.ntmps33
  go_wp2
  go_ret
  exact ⟨rfl, rfl⟩
theorem place_any (w : World) (base b fr wh : Nat) (ss : List (Option V)) (h : WinR w base b fr wh ss) (k : Nat) (hk : Fit (fr + k)) :
    Calls Try.prog 38 #[.pointer (some ⟨b, 0, none⟩), .int .i64 ((fr : Int) + 1 + (k : Int))] w fun e w' => e = .returned (.int .i64 (k : Int)) ∧ w = w' := by
  obtain ⟨A, n, c, h1, h2, h3, h4⟩ := h
  have hc := h1.cell 0
  simp at hc
  have hk1 := hk.out
  have e1 : IntKind.i64.wrap ((fr : Int) + 1 + (k : Int) - fr) = 1 + (k : Int) := by rw [IntWalk.i64_in _ (by omega)]; omega
  have e2 : IntKind.i64.wrap (1 + (k : Int) - 1) = (k : Int) := by rw [IntWalk.i64_in _ (by omega)]; omega
  clear h1 h2 h3 h4 hk hk1
  go_enter Try.func38, Try.ntmps38
  go_wp2
  go_ret
  exact ⟨by first | rfl | (rw [e1, e2]), rfl⟩
theorem top_any (w : World) (base b fr wh : Nat) (ss : List (Option V)) (h : WinR w base b fr wh ss) :
    Calls Try.prog 34 #[.pointer (some ⟨b, 0, none⟩)] w fun e w' => e = .returned (.int .i64 ((fr : Int) + (ss.length : Int))) ∧ ∃ n, w' = w.drewN n := by
  obtain ⟨A, n, c, h1, h2, h3, h4⟩ := h
  have hc0 := h1.cell 0
  have hc2 := h1.cell 2
  simp at hc0 hc2
  have hn := Lib.hid (len_of h2)
  have hb : (fr : Int) + (n : Int) ≤ 2000000000000 := by have := h4.out; omega
  have hE := Lib.hid (show ((fr : Int) + (n : Int)) = (fr : Int) + (ss.length : Int) by have := hn.out; omega)
  clear h1 h2 h3 h4
  go_enter Try.func34, Try.ntmps34
  go_wp2
  go_quiet (fail)
  go_wp2
  go_ret
  exact ⟨ret_int hE.out, _, rfl⟩
theorem has_any (w : World) (base b fr wh : Nat) (ss : List (Option V)) (h : WinR w base b fr wh ss) (i : Int) :
    Calls Try.prog 37 #[.pointer (some ⟨b, 0, none⟩), .int .i64 i] w fun e w' => e = .returned (.bool (Wd.hasB fr ss i)) ∧ ∃ n, w' = w.drewN n := by
  have HW := Lib.hid h
  obtain ⟨A, n, c, h1, h2, h3, h4⟩ := h
  have hc0 := h1.cell 0
  have hc2 := h1.cell 2
  simp at hc0 hc2
  have hn := len_of h2
  have hfit := h4
  by_cases hi : i ≤ fr
  · have HE := Lib.hid (Wd.hasB_no (ss := ss) hi)
    have hd : decide ((fr : Int) < i) = false := by simp; omega
    clear h1 h2 h3 h4 hn hc2 hi hfit
    go_enter Try.func37, Try.ntmps37
    go_wp2
    go_quiet (fail)
    go_wp2
    go_ret
    exact ⟨ret_bool HE.out.symm, _, rfl⟩
  · have hd : decide ((fr : Int) < i) = true := by simp; omega
    by_cases hj : ((fr + ss.length : Nat) : Int) < i
    · have HE := Lib.hid (Wd.hasB_far (ss := ss) hj)
      have hd2 : decide (i ≤ (fr : Int) + (ss.length : Int)) = false := by simp; omega
      have HT := Lib.hid (fun k => top_any (w.drewN k) base b fr wh ss (HW.out.drewN k))
      clear h1 h2 h3 h4 hn hc2 hi hj hfit
      go_enter Try.func37, Try.ntmps37
      go_wp2
      go_quiet ((go_at_call 34; exact Calls.quiet_of (HT.out _)))
      go_wp2
      go_ret
      exact ⟨ret_bool HE.out.symm, _, rfl⟩
    · obtain ⟨k, rfl⟩ : ∃ k : Nat, i = (fr : Int) + 1 + (k : Int) := ⟨(i - fr - 1).toNat, by omega⟩
      have hd2 : decide ((fr : Int) + 1 + (k : Int) ≤ (fr : Int) + (ss.length : Int)) = true := by simp; omega
      have hk : k < ss.length := by omega
      obtain ⟨o, ho⟩ : ∃ o, ss[k]? = some o := ⟨_, List.getElem?_eq_getElem hk⟩
      have HE := Lib.hid (show Wd.hasB fr ss ((fr : Int) + 1 + (k : Int)) = o.isSome by
        have e : ((fr : Int) + 1 + (k : Int)) = ((fr + 1 + k : Nat) : Int) := by omega
        rw [e, Wd.hasB_at hk]
        rw [List.getElem?_eq_getElem hk] at ho
        injection ho with ho
        rw [ho])
      have HT := Lib.hid (fun k => top_any (w.drewN k) base b fr wh ss (HW.out.drewN k))
      have HP := Lib.hid (fun m => place_any (w.drewN m) base b fr wh ss (HW.out.drewN m) k (by have := hfit.out; unfold Fit; omega))
      obtain ⟨g, oo, cur, rfl, _, _, _, _⟩ := h2.addr (by have := h2.le; omega)
      have hcell := (h2.cell (i := k * 2 + 1) (by omega)).trans (Wd.cells_there enc zero ho)
      rw [← Nat.add_assoc] at hcell
      have hkn : k < n := by omega
      clear h1 h2 h3 h4 hi hj hfit hn ho hk
      go_enter Try.func37, Try.ntmps37
      go_wp2
      go_quiet ((first | (go_at_call 34; exact Calls.quiet_of (HT.out _)) | (go_at_call 38; exact quiet_left (HP.out _))))
      go_wp2
      go_ret
      exact ⟨ret_bool HE.out.symm, _, rfl⟩
theorem get_no (w : World) (base b fr wh : Nat) (ss : List (Option V)) (h : WinR w base b fr wh ss) (i : Int) (hi : Wd.hasB fr ss i = false) :
    Calls Try.prog 29 #[.pointer (some ⟨b, 0, none⟩), .int .i64 i] w fun e w' => e = .returned (.tuple #[zero, .bool false]) ∧ Below w.heap.size w w' := by
  have HC := Lib.hid (has_any w base b fr wh ss h i)
  rw [hi] at HC
  have hB := Below.refl w.heap.size w
  clear h hi
  go_enter Try.func29, Try.ntmps29
  go_wp2_with fail
  refine HC.out.mono ?_
  rintro e w1 ⟨rfl, m, hm⟩
  have hB1 : Below w.heap.size w w1 := by rw [hm]; exact below_drewN hB m
  clear hm
  go_wp2
  go_ret2
  exact ⟨rfl, hB1.alloc hB1.size _⟩
theorem get_yes (w : World) (base b fr wh : Nat) (ss : List (Option V)) (h : WinR w base b fr wh ss) (k : Nat) (v : V) (hk : ss[k]? = some (some v)) :
    Calls Try.prog 29 #[.pointer (some ⟨b, 0, none⟩), .int .i64 ((fr : Int) + 1 + (k : Int))] w fun e w' => e = .returned (.tuple #[enc v, .bool true]) ∧ Below w.heap.size w w' := by
  have hlt : k < ss.length := (List.getElem?_eq_some_iff.1 hk).1
  have hi : Wd.hasB fr ss ((fr : Int) + 1 + (k : Int)) = true := by
    have e : ((fr : Int) + 1 + (k : Int)) = ((fr + 1 + k : Nat) : Int) := by omega
    rw [e, Wd.hasB_at hlt]
    rw [List.getElem?_eq_getElem hlt] at hk
    injection hk with hk
    rw [hk]; rfl
  have HC := Lib.hid (has_any w base b fr wh ss h ((fr : Int) + 1 + (k : Int)))
  rw [hi] at HC
  have hB := Below.refl w.heap.size w
  have HW := Lib.hid h
  obtain ⟨A, n, c, h1, h2, h3, h4⟩ := h
  have hc2 := h1.cell 2
  simp at hc2
  have hn := len_of h2
  have HK := Lib.hid (show Fit (fr + k) by have := h4.out; unfold Fit; omega)
  obtain ⟨g, oo, cur, rfl, _, _, _, _⟩ := h2.addr (by have := h2.le; omega)
  have hcell := (h2.cell (i := k * 2) (by omega)).trans (Wd.cells_x enc zero hk)
  have hkn : k < n := by omega
  clear h1 h2 h3 h4 hi hn hk hlt
  go_enter Try.func29, Try.ntmps29
  go_wp2_with fail
  refine HC.out.mono ?_
  rintro e w1 ⟨rfl, m, hm⟩
  have hB1 : Below w.heap.size w w1 := by rw [hm]; exact below_drewN hB m
  have hc2' : w1.cell? ⟨b, 2, none⟩ = some (.slice (some ⟨g, oo, none⟩) n c) := by rw [hm]; exact hc2
  have hcell' : w1.cell? ⟨g, oo + k * 2, none⟩ = some (enc v) := by rw [hm]; exact hcell
  have HP := Lib.hid (fun m => place_any (w1.drewN m) base b fr wh ss ((HW.out.below hB1).drewN m) k HK.out)
  clear hm hc2 hcell hB
  go_wp2
  go_quiet ((go_at_call 38; exact quiet_left (HP.out _)))
  go_wp2
  go_ret2
  exact ⟨rfl, below_drewN hB1 _⟩
theorem get_is {w : World} {base b fr wh : Nat} {ss : List (Option V)} (h : WinR w base b fr wh ss) (i : Int) (k : Nat) (v : V) (hi : i = (fr : Int) + 1 + (k : Int)) (hk : ss[k]? = some (some v)) :
    Calls Try.prog 29 #[.pointer (some ⟨b, 0, none⟩), .int .i64 i] w fun e w' => e = .returned (.tuple #[enc v, .bool true]) ∧ Below w.heap.size w w' := by
  subst hi
  exact get_yes w base b fr wh ss h k v hk
end Go.Proofs.Yteafbljdlcbckaa.WS
