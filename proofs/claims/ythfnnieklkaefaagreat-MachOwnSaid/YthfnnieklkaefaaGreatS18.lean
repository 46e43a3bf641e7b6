/- MachPut2 MachEncode AppKit MachRefG MachGet -/
import Derived.Test.YthfnnieklkaefaaGreatS01
import Derived.Test.YthfnnieklkaefaaGreatS09
import Derived.Test.YthfnnieklkaefaaGreatS11
import Derived.Test.YthfnnieklkaefaaGreatS14
import Derived.Test.YthfnnieklkaefaaGreatS17
namespace Go.Proofs.YthfnnieklkaefaaGreat
open Go.RowKit
set_option linter.unusedVariables false
theorem take_snoc {α : Type} {l : List α} {k : Nat} {x : α} (h : l[k]? = some x) : l.take (k + 1) = l.take k ++ [x] := by rw [List.take_add_one, h]; rfl
theorem cell_of {W w : World} (hB : Below W.heap.size W w) {p : Addr} {v : Value} (h : W.cell? p = some v) : w.cell? p = some v := (hB.cell (World.block_lt_of_cell? _ _ h)).trans h
set_option maxHeartbeats 2000000 in
set_option maxRecDepth 100000 in
theorem putEachQ_any {W w : World} {A A' : Option Addr} {n c n' c' : Nat} {l : List Nat} {xs : List (List Nat)} (hl : l.length ≤ 10000) (hn : xs.length ≤ 100) (hx : ∀ x ∈ xs, x.length ≤ 16) (ho : OwnB W w A n c l) (hr : RdQ W W.heap.size A' n' xs) (hB : Below W.heap.size W w) :
    Calls Tryz.prog 54 #[.slice A n c, .slice A' n' c', .func (.func 53) #[] #[]] w (GotPut W w (l ++ (encN xs.length ++ encQ xs))) := by
  obtain rfl := own_len ho
  have hlen : xs.length = n' := hr.length
  subst hlen
  have HR := Lib.hid hr
  have HX := Lib.hid hx
  have HLEN : Hid (∀ k, k ≤ xs.length → (l ++ (encN xs.length ++ encQ (xs.take k))).length ≤ 20000) := Lib.hid (fun k hk => by
    have h1 := encN_length xs.length
    have h2 := encQ_length (qs := xs.take k) (fun y hy => hx y (List.mem_of_mem_take hy))
    have h3 : (xs.take k).length ≤ k := List.length_take_le _ _
    simp only [List.length_append]; omega)
  have HC := Lib.hid (putNum_any (W := W) (xs.length : Int) (by omega) ho hB)
  obtain ⟨l0, e0⟩ : ∃ x, l ++ Pk.enc (Pk.held (xs.length : Int)) = x := ⟨_, rfl⟩
  rw [e0] at HC
  have HE0 : Hid (∀ y, l ++ (encN xs.length ++ y) = l0 ++ y) := Lib.hid (fun y => by rw [← e0, ← List.append_assoc]; rfl)
  rw [HE0.out] 
  clear ho hB hr e0 hx 
  go_enter Tryz.func54, Tryz.ntmps54
  go_wp2_with (first
    | (go_at_call 56; refine HC.out.mono ?_; rintro e w1 ⟨A1, c1, rfl, ho1, hB1, hb1⟩)
    | fail)
  have HO1 := Lib.hid ho1
  have HB1 := Lib.hid hB1
  have HU1 := Lib.hid hb1
  clear ho1 hB1 hb1 HC
  go_loopw [0, 8, 15] (fun s0 s8 s15 wr => ∃ (k : Nat) (A2 : Option Addr) (c2 : Nat) (L : List Nat), k ≤ xs.length ∧ s15 = .int .i64 (k : Int) ∧ s0 = .slice A2 L.length c2 ∧ Hid (L = l0 ++ encQ (xs.take k)) ∧ Hid (OwnB W wr A2 L.length c2 L) ∧ Hid (Below W.heap.size W wr) ∧ Hid (OnlyB w wr)) (fun _ _ s15 _ => xs.length - (intOf s15).toNat)
  case atStart => exact ⟨0, A1, c1, l0, Nat.zero_le _, rfl, rfl, Lib.hid (by simp [encQ]), HO1, HB1, HU1⟩
  case round =>
    obtain ⟨k, A2, c2, L, hk, rfl, rfl, HL, HO, HB, HU⟩ := hrel
    by_cases hlt : k < xs.length
    · obtain ⟨b, o, x, A3, c3, rfl, hxk, hc0, hrd⟩ := HR.out.at hlt
      have y0 := cell_of HB.out hc0
      have hLL : L.length ≤ 1000000 := by have := HLEN.out k hk; rw [HE0.out, ← HL.out] at this; omega
      have hLS : L.length ≤ 20000 := by have := HLEN.out k hk; rwa [HE0.out, ← HL.out] at this
      have HP := Lib.hid hxk
      have HC := Lib.hid (putBytes_any (W := W) (c' := c3) hLL (Nat.le_trans (HX.out x (List.mem_of_getElem? hxk)) (by omega)) HO.out hrd HB.out)
      obtain ⟨L', eL⟩ : ∃ y, L ++ Pk.encB x = y := ⟨_, rfl⟩
      rw [eL] at HC
      have HEL := Lib.hid eL
      clear eL hxk 
      go_wp2_with (first
        | (go_at_call 53; refine HC.out.mono ?_; rintro e w4 ⟨A5, c5, rfl, ho5, hB5, hb5⟩)
        | fail)
      go_roundw
      case rel =>
        refine ⟨k + 1, A5, c5, L', by omega, by go_num, rfl, Lib.hid ?_, Lib.hid ho5, Lib.hid hB5, Lib.hid (HU.out.trans hb5)⟩
        rw [← HEL.out, HL.out, take_snoc HP.out, encQ_snoc]
        simp only [List.append_assoc]
      case measure => simp only [intOf]; omega
    · obtain rfl : k = xs.length := by omega
      go_wp2_with fail
      go_ret
      exact GotPut.is (l := L) ⟨A2, c2, rfl, HO.out, HB.out, HU.out⟩ (by rw [HL.out, List.take_of_length_le (Nat.le_refl _)])
set_option maxHeartbeats 2000000 in
set_option maxRecDepth 100000 in
theorem putEachI_any {W w : World} {A A' : Option Addr} {n c n' c' : Nat} {l : List Nat} {xs : List Int} (hl : l.length ≤ 10000) (hn : xs.length ≤ 100)  (ho : OwnB W w A n c l) (hr : Rd W W.heap.size A' n' (iv xs)) (hB : Below W.heap.size W w) :
    Calls Tryz.prog 55 #[.slice A n c, .slice A' n' c', .func (.func 56) #[] #[]] w (GotPut W w (l ++ (encN xs.length ++ Pk.encs xs))) := by
  obtain rfl := own_len ho
  have hlen : xs.length = n' := by have := hr.1; rwa [iv_length] at this
  subst hlen
  have HR := Lib.hid hr
  have HLEN : Hid (∀ k, k ≤ xs.length → (l ++ (encN xs.length ++ Pk.encs (xs.take k))).length ≤ 20000) := Lib.hid (fun k hk => by
    have h1 := encN_length xs.length
    have h2 := Pk.encs_length (xs.take k)
    have h3 : (xs.take k).length ≤ k := List.length_take_le _ _
    simp only [List.length_append]; omega)
  have HC := Lib.hid (putNum_any (W := W) (xs.length : Int) (by omega) ho hB)
  obtain ⟨l0, e0⟩ : ∃ x, l ++ Pk.enc (Pk.held (xs.length : Int)) = x := ⟨_, rfl⟩
  rw [e0] at HC
  have HE0 : Hid (∀ y, l ++ (encN xs.length ++ y) = l0 ++ y) := Lib.hid (fun y => by rw [← e0, ← List.append_assoc]; rfl)
  rw [HE0.out] 
  clear ho hB hr e0 
  go_enter Tryz.func55, Tryz.ntmps55
  go_wp2_with (first
    | (go_at_call 56; refine HC.out.mono ?_; rintro e w1 ⟨A1, c1, rfl, ho1, hB1, hb1⟩)
    | fail)
  have HO1 := Lib.hid ho1
  have HB1 := Lib.hid hB1
  have HU1 := Lib.hid hb1
  clear ho1 hB1 hb1 HC
  go_loopw [0, 8, 15] (fun s0 s8 s15 wr => ∃ (k : Nat) (A2 : Option Addr) (c2 : Nat) (L : List Nat), k ≤ xs.length ∧ s15 = .int .i64 (k : Int) ∧ s0 = .slice A2 L.length c2 ∧ Hid (L = l0 ++ Pk.encs (xs.take k)) ∧ Hid (OwnB W wr A2 L.length c2 L) ∧ Hid (Below W.heap.size W wr) ∧ Hid (OnlyB w wr)) (fun _ _ s15 _ => xs.length - (intOf s15).toNat)
  case atStart => exact ⟨0, A1, c1, l0, Nat.zero_le _, rfl, rfl, Lib.hid (by simp [Pk.encs]), HO1, HB1, HU1⟩
  case round =>
    obtain ⟨k, A2, c2, L, hk, rfl, rfl, HL, HO, HB, HU⟩ := hrel
    by_cases hlt : k < xs.length
    · obtain ⟨x, hxk⟩ : ∃ x, xs[k]? = some x := ⟨_, List.getElem?_eq_getElem hlt⟩
      obtain ⟨b, o, rfl, _⟩ := HR.out.int_at hlt
      have hc0 := HR.out.int_cell hlt hxk
      have y0 := cell_of HB.out hc0
      have hLL : L.length ≤ 1000000 := by have := HLEN.out k hk; rw [HE0.out, ← HL.out] at this; omega
      have hLS : L.length ≤ 20000 := by have := HLEN.out k hk; rwa [HE0.out, ← HL.out] at this
      have HP := Lib.hid hxk
      have HC := Lib.hid (putNum_any (W := W) x hLL HO.out HB.out)
      obtain ⟨L', eL⟩ : ∃ y, L ++ Pk.enc (Pk.held x) = y := ⟨_, rfl⟩
      rw [eL] at HC
      have HEL := Lib.hid eL
      clear eL hxk 
      go_wp2_with (first
        | (go_at_call 56; refine HC.out.mono ?_; rintro e w4 ⟨A5, c5, rfl, ho5, hB5, hb5⟩)
        | fail)
      go_roundw
      case rel =>
        refine ⟨k + 1, A5, c5, L', by omega, by go_num, rfl, Lib.hid ?_, Lib.hid ho5, Lib.hid hB5, Lib.hid (HU.out.trans hb5)⟩
        rw [← HEL.out, HL.out, take_snoc HP.out, Pk.encs_snoc]
        simp only [List.append_assoc]
      case measure => simp only [intOf]; omega
    · obtain rfl : k = xs.length := by omega
      go_wp2_with fail
      go_ret
      exact GotPut.is (l := L) ⟨A2, c2, rfl, HO.out, HB.out, HU.out⟩ (by rw [HL.out, List.take_of_length_le (Nat.le_refl _)])
set_option maxHeartbeats 2000000 in
set_option maxRecDepth 100000 in
theorem putEachP_any {W w : World} {A A' : Option Addr} {n c n' c' : Nat} {l : List Nat} {xs : List Pr} (hl : l.length ≤ 10000) (hn : xs.length ≤ 100) (hx : ∀ p ∈ xs, p.1.length ≤ 8 ∧ p.2.length ≤ 16) (ho : OwnB W w A n c l) (hr : RdP W W.heap.size A' n' xs) (hB : Below W.heap.size W w) :
    Calls Tryz.prog 57 #[.slice A n c, .slice A' n' c', .func (.func 58) #[] #[]] w (GotPut W w (l ++ (encN xs.length ++ encP xs))) := by
  obtain rfl := own_len ho
  have hlen : xs.length = n' := hr.length
  subst hlen
  have HR := Lib.hid hr
  have HX := Lib.hid hx
  have HLEN : Hid (∀ k, k ≤ xs.length → (l ++ (encN xs.length ++ encP (xs.take k))).length ≤ 20000) := Lib.hid (fun k hk => by
    have h1 := encN_length xs.length
    have h2 := encP_length (ps := xs.take k) (fun y hy => hx y (List.mem_of_mem_take hy))
    have h3 : (xs.take k).length ≤ k := List.length_take_le _ _
    simp only [List.length_append]; omega)
  have HC := Lib.hid (putNum_any (W := W) (xs.length : Int) (by omega) ho hB)
  obtain ⟨l0, e0⟩ : ∃ x, l ++ Pk.enc (Pk.held (xs.length : Int)) = x := ⟨_, rfl⟩
  rw [e0] at HC
  have HE0 : Hid (∀ y, l ++ (encN xs.length ++ y) = l0 ++ y) := Lib.hid (fun y => by rw [← e0, ← List.append_assoc]; rfl)
  rw [HE0.out] 
  clear ho hB hr e0 hx 
  go_enter Tryz.func57, Tryz.ntmps57
  go_wp2_with (first
    | (go_at_call 56; refine HC.out.mono ?_; rintro e w1 ⟨A1, c1, rfl, ho1, hB1, hb1⟩)
    | fail)
  have HO1 := Lib.hid ho1
  have HB1 := Lib.hid hB1
  have HU1 := Lib.hid hb1
  clear ho1 hB1 hb1 HC
  go_loopw [0, 8, 15] (fun s0 s8 s15 wr => ∃ (k : Nat) (A2 : Option Addr) (c2 : Nat) (L : List Nat), k ≤ xs.length ∧ s15 = .int .i64 (k : Int) ∧ s0 = .slice A2 L.length c2 ∧ Hid (L = l0 ++ encP (xs.take k)) ∧ Hid (OwnB W wr A2 L.length c2 L) ∧ Hid (Below W.heap.size W wr) ∧ Hid (OnlyB w wr)) (fun _ _ s15 _ => xs.length - (intOf s15).toNat)
  case atStart => exact ⟨0, A1, c1, l0, Nat.zero_le _, rfl, rfl, Lib.hid (by simp [encP]), HO1, HB1, HU1⟩
  case round =>
    obtain ⟨k, A2, c2, L, hk, rfl, rfl, HL, HO, HB, HU⟩ := hrel
    by_cases hlt : k < xs.length
    · obtain ⟨b, o, x, A3, c3, A4, c4, rfl, hxk, hc0, hc1, hrd, hrd2⟩ := HR.out.at hlt
      have y0 := cell_of HB.out hc0
      have y1 := cell_of HB.out hc1
      have hLL : L.length ≤ 1000000 := by have := HLEN.out k hk; rw [HE0.out, ← HL.out] at this; omega
      have hLS : L.length ≤ 20000 := by have := HLEN.out k hk; rwa [HE0.out, ← HL.out] at this
      have b0 : Below wr.heap.size wr (wr.alloc (.cells #[.slice A3 x.1.length c3, .slice A4 x.2.length c4] 86)) := (Below.refl _ _).alloc (Nat.le_refl _) _
      have HB0 := Lib.hid b0
      have HP := Lib.hid hxk
      have HC := Lib.hid (putPair_any (W := W) (c1 := c3) (c2 := c4) (p := x) (by omega) (Nat.le_trans (HX.out x (List.mem_of_getElem? hxk)).1 (by omega)) (Nat.le_trans (HX.out x (List.mem_of_getElem? hxk)).2 (by omega)) (own_below HO.out b0) hrd hrd2 (HB.out.trans (b0.mono HB.out.size)))
      obtain ⟨L', eL⟩ : ∃ y, L ++ Pk.encB x.1 ++ Pk.encB x.2 = y := ⟨_, rfl⟩
      rw [eL] at HC
      have HEL := Lib.hid eL
      clear eL hxk b0
      go_wp2_with (first
        | (go_at_call 58; refine HC.out.mono ?_; rintro e w4 ⟨A5, c5, rfl, ho5, hB5, hb5⟩)
        | fail)
      go_roundw
      case rel =>
        refine ⟨k + 1, A5, c5, L', by omega, by go_num, rfl, Lib.hid ?_, Lib.hid ho5, Lib.hid hB5, Lib.hid (HU.out.trans ((OnlyB.of_below HB0.out).trans hb5))⟩
        rw [← HEL.out, HL.out, take_snoc HP.out, encP_snoc]
        simp only [List.append_assoc]
      case measure => simp only [intOf]; omega
    · obtain rfl : k = xs.length := by omega
      go_wp2_with fail
      go_ret
      exact GotPut.is (l := L) ⟨A2, c2, rfl, HO.out, HB.out, HU.out⟩ (by rw [HL.out, List.take_of_length_le (Nat.le_refl _)])
theorem encT_snoc1 (ls : List Ls) (l : Ls) : encT (ls ++ [l]) = encT ls ++ encL1 l := by simp [encT]
set_option maxHeartbeats 2000000 in
set_option maxRecDepth 100000 in
theorem putEachT_any {W w : World} {A A' : Option Addr} {n c n' c' : Nat} {l : List Nat} {xs : List Ls} (hl : l.length ≤ 10000) (hn : xs.length ≤ 100) (hx : ∀ m ∈ xs, m.v.length ≤ 16) (hm : ∀ m ∈ xs, -1 ≤ m.n ∧ m.n ≤ 1073741824) (ho : OwnB W w A n c l) (hr : RdL W W.heap.size A' n' xs) (hB : Below W.heap.size W w) :
    Calls Tryz.prog 59 #[.slice A n c, .slice A' n' c', .func (.func 60) #[] #[]] w (GotPut W w (l ++ (encN xs.length ++ encT xs))) := by
  obtain rfl := own_len ho
  have hlen : xs.length = n' := hr.length
  subst hlen
  have HR := Lib.hid hr
  have HX := Lib.hid hx
  have HM := Lib.hid hm
  have HLEN : Hid (∀ k, k ≤ xs.length → (l ++ (encN xs.length ++ encT (xs.take k))).length ≤ 20000) := Lib.hid (fun k hk => by
    have h1 := encN_length xs.length
    have h2 := encT_length (ls := xs.take k) (fun y hy => hx y (List.mem_of_mem_take hy))
    have h3 : (xs.take k).length ≤ k := List.length_take_le _ _
    simp only [List.length_append]; omega)
  have HC := Lib.hid (putNum_any (W := W) (xs.length : Int) (by omega) ho hB)
  obtain ⟨l0, e0⟩ : ∃ x, l ++ Pk.enc (Pk.held (xs.length : Int)) = x := ⟨_, rfl⟩
  rw [e0] at HC
  have HE0 : Hid (∀ y, l ++ (encN xs.length ++ y) = l0 ++ y) := Lib.hid (fun y => by rw [← e0, ← List.append_assoc]; rfl)
  rw [HE0.out] 
  clear ho hB hr e0 hx hm
  go_enter Tryz.func59, Tryz.ntmps59
  go_wp2_with (first
    | (go_at_call 56; refine HC.out.mono ?_; rintro e w1 ⟨A1, c1, rfl, ho1, hB1, hb1⟩)
    | fail)
  have HO1 := Lib.hid ho1
  have HB1 := Lib.hid hB1
  have HU1 := Lib.hid hb1
  clear ho1 hB1 hb1 HC
  go_loopw [0, 8, 15] (fun s0 s8 s15 wr => ∃ (k : Nat) (A2 : Option Addr) (c2 : Nat) (L : List Nat), k ≤ xs.length ∧ s15 = .int .i64 (k : Int) ∧ s0 = .slice A2 L.length c2 ∧ Hid (L = l0 ++ encT (xs.take k)) ∧ Hid (OwnB W wr A2 L.length c2 L) ∧ Hid (Below W.heap.size W wr) ∧ Hid (OnlyB w wr)) (fun _ _ s15 _ => xs.length - (intOf s15).toNat)
  case atStart => exact ⟨0, A1, c1, l0, Nat.zero_le _, rfl, rfl, Lib.hid (by simp [encT]), HO1, HB1, HU1⟩
  case round =>
    obtain ⟨k, A2, c2, L, hk, rfl, rfl, HL, HO, HB, HU⟩ := hrel
    by_cases hlt : k < xs.length
    · obtain ⟨b, o, x, A3, c3, rfl, hxk, hc0, hc1, hc2, hc3, hc4, hrd⟩ := HR.out.at hlt
      have y0 := cell_of HB.out hc0
      have y1 := cell_of HB.out hc1
      have y2 := cell_of HB.out hc2
      have y3 := cell_of HB.out hc3
      have y4 := cell_of HB.out hc4
      have hLL : L.length ≤ 1000000 := by have := HLEN.out k hk; rw [HE0.out, ← HL.out] at this; omega
      have hLS : L.length ≤ 20000 := by have := HLEN.out k hk; rwa [HE0.out, ← HL.out] at this
      have b0 : Below wr.heap.size wr (wr.alloc (.cells #[.int .i64 x.s, .int .i64 x.q, .int .i64 x.e, .slice A3 x.v.length c3, .int .i64 x.n] 54)) := (Below.refl _ _).alloc (Nat.le_refl _) _
      have HB0 := Lib.hid b0
      have HP := Lib.hid hxk
      have HC := Lib.hid (putLast_any (W := W) (c1 := c3) (m := x) (by omega) (Nat.le_trans (HX.out x (List.mem_of_getElem? hxk)) (by omega)) (HM.out x (List.mem_of_getElem? hxk)) (own_below HO.out b0) hrd (HB.out.trans (b0.mono HB.out.size)))
      obtain ⟨L', eL⟩ : ∃ y, L ++ encL1 x = y := ⟨_, rfl⟩
      rw [eL] at HC
      have HEL := Lib.hid eL
      clear eL hxk b0
      go_wp2_with (first
        | (go_at_call 60; refine HC.out.mono ?_; rintro e w4 ⟨A5, c5, rfl, ho5, hB5, hb5⟩)
        | fail)
      go_roundw
      case rel =>
        refine ⟨k + 1, A5, c5, L', by omega, by go_num, rfl, Lib.hid ?_, Lib.hid ho5, Lib.hid hB5, Lib.hid (HU.out.trans ((OnlyB.of_below HB0.out).trans hb5))⟩
        rw [← HEL.out, HL.out, take_snoc HP.out, encT_snoc1]
        simp only [List.append_assoc]
      case measure => simp only [intOf]; omega
    · obtain rfl : k = xs.length := by omega
      go_wp2_with fail
      go_ret
      exact GotPut.is (l := L) ⟨A2, c2, rfl, HO.out, HB.out, HU.out⟩ (by rw [HL.out, List.take_of_length_le (Nat.le_refl _)])
end Go.Proofs.YthfnnieklkaefaaGreat

namespace Go.Proofs.YthfnnieklkaefaaGreat
open Go.RowKit
set_option linter.unusedVariables false
set_option maxHeartbeats 4000000 in
set_option maxRecDepth 100000 in
theorem encode_raw {w : World} {a : MA} {m : Mc} {B : Nat} (hM : m.Ok) (h : RdM w B a m) : Calls Tryz.prog 14 #[machV a m] w (GotIn w w m.enc) := by
  obtain ⟨wz, hwz⟩ : ∃ wz, w.alloc (.cells (machC a m) 37) = wz := ⟨_, rfl⟩
  have hbz : Below w.heap.size w wz := by rw [← hwz]; exact (Below.refl _ _).alloc (Nat.le_refl _) _
  have hkz : Blk wz w.heap.size 37 (machC a m) := by rw [← hwz]; exact Blk.new _ _ _
  have HR := Lib.hid ((h.fit.below hbz).fit)
  have HZ := Lib.hid hbz
  have HM := Lib.hid hM
  obtain ⟨g, hg⟩ : ∃ g, w.heap.size = g := ⟨_, rfl⟩
  rw [hg] at hkz
  have HF : Hid (∀ wx, Below wz.heap.size wz wx → Blk wx g 37 (machC a m)) := Lib.hid (fun wx hb => hkz.below hb)
  have HW := Lib.hid hwz
  have HG := Lib.hid hg
  have k1 := encB_length m.o.reg
  have k2 := encQ_length hM.o.qv
  have k3 := Pk.encs_length m.o.lk
  have k4 := encP_length hM.o.mp.len
  have k5 := encN_length m.o.q.length
  have k6 := encN_length m.o.lk.length
  have k7 := encN_length m.o.mp.length
  have k8 := hM.o.reg
  have k9 := hM.o.ql
  have k10 := hM.o.lkl
  have k11 := hM.o.mp.few
  obtain ⟨l1, e1⟩ : ∃ x, Pk.encB m.o.reg = x := ⟨_, rfl⟩
  obtain ⟨l2, e2⟩ : ∃ x, l1 ++ (encN m.o.q.length ++ encQ m.o.q) = x := ⟨_, rfl⟩
  obtain ⟨l3, e3⟩ : ∃ x, l2 ++ (encN m.o.lk.length ++ Pk.encs m.o.lk) = x := ⟨_, rfl⟩
  obtain ⟨l4, e4⟩ : ∃ x, l3 ++ (encN m.o.mp.length ++ encP m.o.mp) = x := ⟨_, rfl⟩
  obtain ⟨l5, e5⟩ : ∃ x, l4 ++ (encN m.t.length ++ encT m.t) = x := ⟨_, rfl⟩
  have hl1 : l1.length ≤ 100 := by rw [← e1]; omega
  have hl2 : l2.length ≤ 1000 := by rw [← e2]; simp only [List.length_append]; omega
  have hl3 : l3.length ≤ 2000 := by rw [← e3]; simp only [List.length_append]; omega
  have hl4 : l4.length ≤ 3000 := by rw [← e4]; simp only [List.length_append]; omega
  have hEND : m.enc = l5 := by
    unfold Mc.enc; rw [← e5, ← e4, ← e3, ← e2, ← e1]; simp only [List.append_assoc]
  rw [hEND]
  have C1 : Hid (Calls Tryz.prog 53 #[.slice none 0 0, .slice a.o.A0 m.o.reg.length a.o.c0] wz (GotPut wz wz l1)) := Lib.hid ((putBytes_any (W := wz) (w := wz) (l := []) (x := m.o.reg) (by simp) (by omega) (own_nil _ _) HR.out.o.r0 (Below.refl _ _)).mono fun e w' h => h.is (by rw [← e1]; rfl))
  have C2 : Hid (∀ {wx : World} {A : Option Addr} {c : Nat}, OwnB wz wx A l1.length c l1 → Below wz.heap.size wz wx → Calls Tryz.prog 54 #[.slice A l1.length c, .slice a.o.A1 m.o.q.length a.o.c1, .func (.func 53) #[] #[]] wx (GotPut wz wx l2)) := Lib.hid (fun ho hB => (putEachQ_any (W := wz) (c' := a.o.c1) (by omega) (by omega) hM.o.qv ho HR.out.o.r1 hB).mono fun e w' h => h.is e2)
  have C3 : Hid (∀ {wx : World} {A : Option Addr} {c : Nat}, OwnB wz wx A l2.length c l2 → Below wz.heap.size wz wx → Calls Tryz.prog 55 #[.slice A l2.length c, .slice a.o.A2 m.o.lk.length a.o.c2, .func (.func 56) #[] #[]] wx (GotPut wz wx l3)) := Lib.hid (fun ho hB => (putEachI_any (W := wz) (c' := a.o.c2) (by omega) (by omega) ho HR.out.o.r2 hB).mono fun e w' h => h.is e3)
  have C4 : Hid (∀ {wx : World} {A : Option Addr} {c : Nat}, OwnB wz wx A l3.length c l3 → Below wz.heap.size wz wx → Calls Tryz.prog 57 #[.slice A l3.length c, .slice a.o.A3 m.o.mp.length a.o.c3, .func (.func 58) #[] #[]] wx (GotPut wz wx l4)) := Lib.hid (fun ho hB => (putEachP_any (W := wz) (c' := a.o.c3) (by omega) (by omega) hM.o.mp.len ho HR.out.o.r3 hB).mono fun e w' h => h.is e4)
  have C5 : Hid (∀ {wx : World} {A : Option Addr} {c : Nat}, OwnB wz wx A l4.length c l4 → Below wz.heap.size wz wx → Calls Tryz.prog 59 #[.slice A l4.length c, .slice a.At m.t.length a.ct, .func (.func 60) #[] #[]] wx (GotPut wz wx l5)) := Lib.hid (fun ho hB => (putEachT_any (W := wz) (c' := a.ct) (by omega) (by have := hM.t8; omega) (fun m' hm' => (hM.t.each m' hm').2.1) (fun m' hm' => (hM.te m' hm').2.2) ho HR.out.t hB).mono fun e w' h => h.is e5)
  clear k1 k2 k3 k4 k5 k6 k7 k8 k9 k10 k11 e1 e2 e3 e4 e5 hl1 hl2 hl3 hl4 hEND h hM hbz hkz hwz hg
  unfold machV machC
  unfold machC at HW HF
  go_enter Tryz.func14, Tryz.ntmps14
  go_upto_region 1 with fail
  rw [HG.out, HW.out]
  obtain ⟨x0, x1, x2, x3, x4⟩ := five (HF.out wz (Below.refl _ _))
  go_wp2_with (first
    | (go_at_call 53; refine C1.out.mono ?_; rintro e w1 ⟨A1, c1, rfl, ho1, hB1, hb1⟩; obtain ⟨x0, x1, x2, x3, x4⟩ := five (HF.out w1 hB1))
    | (go_at_call 54; refine (C2.out ho1 hB1).mono ?_; rintro e w2 ⟨A2, c2, rfl, ho2, hB2, hb2⟩; obtain ⟨x0, x1, x2, x3, x4⟩ := five (HF.out w2 hB2))
    | (go_at_call 55; refine (C3.out ho2 hB2).mono ?_; rintro e w3 ⟨A3, c3, rfl, ho3, hB3, hb3⟩; obtain ⟨x0, x1, x2, x3, x4⟩ := five (HF.out w3 hB3))
    | (go_at_call 57; refine (C4.out ho3 hB3).mono ?_; rintro e w4 ⟨A4, c4, rfl, ho4, hB4, hb4⟩; obtain ⟨x0, x1, x2, x3, x4⟩ := five (HF.out w4 hB4))
    | (go_at_call 59; refine (C5.out ho4 hB4).mono ?_; rintro e w5 ⟨A5, c5, rfl, ho5, hB5, hb5⟩)
    | fail)
  go_ret
  have hb := HZ.out.trans (hB5.mono HZ.out.size)
  exact ⟨A5, c5, rfl, own_of HZ.out.size ho5, hb, hb⟩
theorem encode10 : EncodeC10 := fun hM h hB => (encode_raw hM h).mono fun en w' ⟨A', c', h1, h2, h3, h4⟩ => ⟨A', c', h1, own_of hB.size h2, hB.trans (h3.mono hB.size), h4⟩
end Go.Proofs.YthfnnieklkaefaaGreat

namespace Go.Proofs.YthfnnieklkaefaaGreat
open Go.RowKit
set_option linter.unusedVariables false
section
variable {P : Program} {t e : TypeId} {z : Value} {bytes size : Nat} {w : World}
theorem wp_append_at (base : Nat) (hb0 : base ≤ w.heap.size) (hT : CellT P t e z bytes) {o : Oper} {a : Act} {next : Act → World → Prop} {Q : Exit → Act → World → Prop} (s x : Operand)
    (ho : o.op = .call { callee := .builtin .append, args := #[s, x], argTypes := #[t, t] })
    {A : Option Addr} {n c : Nat} {vs : List Value} (hs : a.eval s = .slice A n c) (hown : w.ownsRow base e 1 (.slice A n c) n vs)
    {B : Nat} {A' : Option Addr} {m c' : Nat} {ws : List Value} (hx : a.eval x = .slice A' m c') (hr : Rd w B A' m ws) (h1 : ∀ u ∈ ws, u.oneCell' = true) (hnm : n + m ≤ 1099511627776) (hby : bytes ≤ 64)
    (h : ∀ A2 c2 w2, w2.ownsRow base e 1 (.slice A2 (n + m) c2) (n + m) (vs ++ ws) → w.grownBy w2 (Value.slice A n c).ownBlock → next (a.put o.dst (.slice A2 (n + m) c2)) w2) : o.wp P a w next Q := by
  obtain ⟨i, hi, hz, hsz, hbi⟩ := info_parts hT.info
  obtain ⟨v', w', hrun, h2, h3, h4⟩ := run_append_rd (P := P) w base t o.type e i z bytes hT.under hi hz hsz hbi hT.one _ n vs hown B A' m c' ws hr h1
    (by unfold maxLen; omega) (by have := Nat.mul_le_mul hnm hby; omega) hb0
  obtain ⟨A2, c2, rfl, hr2⟩ := Rd.of_own h2
  have hgo := h A2 c2 w' h2 h3
  unfold Oper.wp execOp
  simp only [ho, resolve, invoke, builtin, Sem.run_bind, Sem.run_pure, Result.andThen_ok, List.map_toArray, List.map_cons, List.map_nil, hs, hx, hrun]
  exact hgo
theorem wp_append_atS (base : Nat) (hb0 : base ≤ w.heap.size) (hT : CellS P t e z size bytes) {o : Oper} {a : Act} {next : Act → World → Prop} {Q : Exit → Act → World → Prop} (s x : Operand)
    (ho : o.op = .call { callee := .builtin .append, args := #[s, x], argTypes := #[t, t] })
    {A : Option Addr} {n c : Nat} {vs : List Value} (hs : a.eval s = .slice A n c) (hown : w.ownsRow base e size (.slice A n c) n vs)
    {B : Nat} {A' : Option Addr} {m c' : Nat} {ws : List Value} (hx : a.eval x = .slice A' m c') (hr : Rd w B A' (m * size) ws) (h1 : ∀ u ∈ ws, u.oneCell' = true) (hnm : n + m ≤ 1099511627776) (hby : bytes ≤ 100)
    (h : ∀ A2 c2 w2, w2.ownsRow base e size (.slice A2 (n + m) c2) (n + m) (vs ++ ws) → w.grownBy w2 (Value.slice A n c).ownBlock → next (a.put o.dst (.slice A2 (n + m) c2)) w2) : o.wp P a w next Q := by
  obtain ⟨i, hi, hz, hsz, hbi⟩ := info_parts hT.info
  obtain ⟨v', w', hrun, h2, h3, h4⟩ := run_append_rdS (P := P) w base t o.type e i z size bytes hT.under hi hz hsz hbi hT.one hT.pos _ n vs hown B A' m c' ws hr h1
    (by unfold maxLen; omega) (by have := Nat.mul_le_mul hnm hby; omega) hb0
  obtain ⟨A2, c2, rfl, hr2⟩ := Rd.of_ownS h2 hT.pos
  have hgo := h A2 c2 w' h2 h3
  unfold Oper.wp execOp
  simp only [ho, resolve, invoke, builtin, Sem.run_bind, Sem.run_pure, Result.andThen_ok, List.map_toArray, List.map_cons, List.map_nil, hs, hx, hrun]
  exact hgo
theorem wpList_append_at (base : Nat) (hb0 : base ≤ w.heap.size) (hT : CellT P t e z bytes) {ops : Array Oper} {rest : List Oper} {o : Oper} {a : Act} {Q : Exit → Act → World → Prop} (s x : Operand)
    (ho : o.op = .call { callee := .builtin .append, args := #[s, x], argTypes := #[t, t] }) (hw : Region.wanted o (yielded ops a.tmps) = true)
    {A : Option Addr} {n c : Nat} {vs : List Value} (hs : a.eval s = .slice A n c) (hown : w.ownsRow base e 1 (.slice A n c) n vs)
    {B : Nat} {A' : Option Addr} {m c' : Nat} {ws : List Value} (hx : a.eval x = .slice A' m c') (hr : Rd w B A' m ws) (h1 : ∀ u ∈ ws, u.oneCell' = true) (hnm : n + m ≤ 1099511627776) (hby : bytes ≤ 64)
    (h : ∀ A2 c2 w2, w2.ownsRow base e 1 (.slice A2 (n + m) c2) (n + m) (vs ++ ws) → w.grownBy w2 (Value.slice A n c).ownBlock → wpList P ops Q rest (a.put o.dst (.slice A2 (n + m) c2)) w2) :
    wpList P ops Q (o :: rest) a w := by
  unfold wpList
  rw [if_pos hw]
  exact .inl (wp_append_at base hb0 hT s x ho hs hown hx hr h1 hnm hby h)
theorem wpList_append_atS (base : Nat) (hb0 : base ≤ w.heap.size) (hT : CellS P t e z size bytes) {ops : Array Oper} {rest : List Oper} {o : Oper} {a : Act} {Q : Exit → Act → World → Prop} (s x : Operand)
    (ho : o.op = .call { callee := .builtin .append, args := #[s, x], argTypes := #[t, t] }) (hw : Region.wanted o (yielded ops a.tmps) = true)
    {A : Option Addr} {n c : Nat} {vs : List Value} (hs : a.eval s = .slice A n c) (hown : w.ownsRow base e size (.slice A n c) n vs)
    {B : Nat} {A' : Option Addr} {m c' : Nat} {ws : List Value} (hx : a.eval x = .slice A' m c') (hr : Rd w B A' (m * size) ws) (h1 : ∀ u ∈ ws, u.oneCell' = true) (hnm : n + m ≤ 1099511627776) (hby : bytes ≤ 100)
    (h : ∀ A2 c2 w2, w2.ownsRow base e size (.slice A2 (n + m) c2) (n + m) (vs ++ ws) → w.grownBy w2 (Value.slice A n c).ownBlock → wpList P ops Q rest (a.put o.dst (.slice A2 (n + m) c2)) w2) :
    wpList P ops Q (o :: rest) a w := by
  unfold wpList
  rw [if_pos hw]
  exact .inl (wp_append_atS base hb0 hT s x ho hs hown hx hr h1 hnm hby h)
end
end Go.Proofs.YthfnnieklkaefaaGreat

namespace Go.Proofs.YthfnnieklkaefaaGreat
open Go.RowKit
set_option linter.unusedVariables false
/-- an own row of bytes, over what a reader turns -/
theorem own_read {w wx wy : World} {A : Option Addr} {n c b : Nat} {l : List Nat} (h : OwnB w wx A n c l) (ho : Only b wx wy) (hb : b < w.heap.size) : OwnB w wy A n c l := own_old h ho (Old.some hb)
end Go.Proofs.YthfnnieklkaefaaGreat

namespace Go.Proofs.YthfnnieklkaefaaGreat
open Go.RowKit
set_option linter.unusedVariables false
/-- the state of a walk that reads: reader, what is turned -/
structure RgSt (w wx : World) (b : Nat) (s : Pk.St) : Prop where
  r : RdrAt wx b s
  only : Only b w wx
section
variable {w wx wy : World} {b g i : Nat} {s s' : Pk.St} {t e : TypeId} {cs : Array Value} {u : Value}
theorem RgSt.size (h : RgSt w wx b s) : w.heap.size ≤ wx.heap.size := h.only.size
theorem RgSt.call (h : RgSt w wx b s) (hr : RdrAt wy b s') (ho : Only b wx wy) : RgSt w wy b s' := ⟨hr, only_trans h.only ho⟩
theorem RgSt.below (h : RgSt w wx b s) (hb : Below wx.heap.size wx wy) : RgSt w wy b s := ⟨h.r.below hb, only_below h.only hb h.size⟩
theorem RgSt.set (h : RgSt w wx b s) (hk : Blk wx g t cs) (h1 : 5 ≠ t) (h2 : 105 ≠ t) (hg : w.heap.size ≤ g) : RgSt w (wx.setCell ⟨g, i, none⟩ u) b s := by
  obtain ⟨A, n, c, hb, q1, q2, q3, q4, q5⟩ := h.r
  exact ⟨⟨A, n, c, hb.set_other (hb.apart hk h2), q1, q2, q3, q4.grown (only_set (only_refl g wx) i u) hk h1, q5⟩, only_below h.only ((Below.refl w.heap.size wx).setCell (p := ⟨g, i, none⟩) hg u) (Nat.le_refl _)⟩
theorem RgSt.row {A : Option Addr} {n c size : Nat} {xs : List Value} (h : RgSt w wx b s) (ho : wx.ownsRow w.heap.size e size (.slice A n c) n xs) (h1 : 5 ≠ e) (h2 : 105 ≠ e) (hg : wx.grownBy wy (Value.slice A n c).ownBlock) : RgSt w wy b s := by
  obtain ⟨A', n', c', hb, q1, q2, q3, q4, q5⟩ := h.r
  exact ⟨⟨A', n', c', hb.apart_own ho h2 hg, q1, q2, q3, q4.kept ho h1 hg, q5⟩, only_below h.only ((Below.refl w.heap.size wx).grown hg h.size (fun k hk => (ho.lt k hk).1)) (Nat.le_refl _)⟩
end
theorem getVal_any (w : World) (b : Nat) (s : Pk.St) (h : RdrAt w b s) {v : List Nat} {s' : Pk.St} (hv : Pk.bytV s 16 = v) (hs : Pk.bytS s 16 = s') :
    Calls Tryz.prog 40 #[.pointer (some ⟨b, 0, none⟩)] w fun e w' => ∃ A c, e = .returned (.slice A v.length c) ∧ OwnB w w' A v.length c v ∧ RdrAt w' b s' ∧ Only b w w' := by
  have HC := Lib.hid (rbytes_is w b s 16 h v s' hv hs)
  clear h hv hs
  go_enter Tryz.func40, Tryz.ntmps40
  go_wp2_with (first
    | (go_at_call 71; refine HC.out.mono ?_; rintro e w1 ⟨A1, n1, c1, rfl, ho1, hr1, hb1⟩; obtain rfl := own_len ho1)
    | fail)
  go_ret
  exact ⟨A1, c1, rfl, ho1, hr1, hb1⟩
theorem getWho_any (w : World) (b : Nat) (s : Pk.St) (h : RdrAt w b s) {v : Nat} {s' : Pk.St} (hv : Pk.numV s 999 = v) (hs : Pk.numS s 999 = s') :
    Calls Tryz.prog 43 #[.pointer (some ⟨b, 0, none⟩)] w (NumP w b v s') := by
  have HC := Lib.hid (rnum_is w b s 999 h v s' hv hs)
  clear h hv hs
  go_enter Tryz.func43, Tryz.ntmps43
  go_wp2_with (first
    | (go_at_call 70; refine HC.out.mono ?_; rintro e w1 ⟨rfl, hr1, hb1⟩)
    | fail)
  go_ret
  exact ⟨rfl, hr1, hb1⟩
set_option maxHeartbeats 4000000 in
set_option maxRecDepth 100000 in
theorem getPair_any (w : World) (b : Nat) (s : Pk.St) (h : RdrAt w b s) :
    Calls Tryz.prog 45 #[.pointer (some ⟨b, 0, none⟩)] w fun en w' => ∃ A1 c1 A2 c2, en = .returned (.agg #[.slice A1 (getP1 s).1.1.length c1, .slice A2 (getP1 s).1.2.length c2]) ∧ OwnB w w' A1 (getP1 s).1.1.length c1 (getP1 s).1.1 ∧ OwnB w w' A2 (getP1 s).1.2.length c2 (getP1 s).1.2 ∧ RdrAt w' b (getP1 s).2 ∧ Only b w w' := by
  have hbl := h.lt
  have HBL := Lib.hid hbl
  have h0 : RgSt w w b s := ⟨h, only_refl b w⟩
  obtain ⟨s0, es⟩ : ∃ x, s = x := ⟨_, rfl⟩
  obtain ⟨v0, d0⟩ : ∃ x, Pk.bytV s0 8 = x := ⟨_, rfl⟩
  obtain ⟨s1, e0⟩ : ∃ x, Pk.bytS s0 8 = x := ⟨_, rfl⟩
  obtain ⟨v1, d1⟩ : ∃ x, Pk.bytV s1 16 = x := ⟨_, rfl⟩
  obtain ⟨s2, e1⟩ : ∃ x, Pk.bytS s1 16 = x := ⟨_, rfl⟩
  have HRES : Hid (getP1 s0 = ((v0, v1), s2)) := Lib.hid (by unfold getP1; rw [d0, e0, d1, e1])
  subst es
  have C0 := Lib.hid (fun w h => rbytes_is w b _ 8 h _ _ d0 e0)
  have C1 := Lib.hid (fun w h => getVal_any w b _ h d1 e1)
  clear d0 e0 d1 e1
  have bb : Below w.heap.size w ((w.alloc (.cells #[.slice none 0 0, .slice none 0 0] 86)).alloc (.cells #[.slice none 0 0, .slice none 0 0] 86)) := ((Below.refl _ _).alloc (Nat.le_refl _) _).alloc (by simp) _
  have HR0 := Lib.hid (h0.below bb)
  have HK2 := Lib.hid ((Blk.new w 86 #[.slice none 0 0, .slice none 0 0]).alloc (.cells #[.slice none 0 0, .slice none 0 0] 86))
  have HK3 := Lib.hid (Blk.new (w.alloc (.cells #[.slice none 0 0, .slice none 0 0] 86)) 86 #[.slice none 0 0, .slice none 0 0])
  rw [World.size_alloc] at HK3
  have hne : w.heap.size ≠ b := by omega
  have hne3 : w.heap.size + 1 ≠ b := by omega
  clear h h0 bb
  go_enter Tryz.func45, Tryz.ntmps45
  go_upto_region 2 with fail
  generalize (w.alloc (.cells #[.slice none 0 0, .slice none 0 0] 86)).alloc (.cells #[.slice none 0 0, .slice none 0 0] 86) = wx0 at HR0 HK2 HK3 ⊢
  go_upto_region 3 with (first
    | (go_at_call 71; refine (C0.out _ HR0.out.r).mono ?_; rintro en w1 ⟨A0, n0, c0, rfl, hv, hr, ho⟩; obtain rfl := own_len hv
       have HRC := Lib.hid (HR0.out.call hr ho)
       have HK2 := Lib.hid (HK2.out.grown ho (by simpa using hne))
       have HK3 := Lib.hid (HK3.out.grown ho (by simpa using hne3))
       have HV0 := Lib.hid (own_of HR0.out.size hv)
       have x0 := HK3.out.cell 0
       have f0 := HK3.out.frozen 0
       have x1 := HK3.out.cell 1
       have f1 := HK3.out.frozen 1
       clear hr ho C0 hv)
    | fail)
  have HR1 : Hid (RgSt w (w1.setCell ⟨w.heap.size + 1, 0, none⟩ (.slice A0 v0.length c0)) b s1) := Lib.hid (HRC.out.set HK3.out (by decide) (by decide) (by omega))
  have HK2 := Lib.hid (HK2.out.set_other (i := 0) (u := .slice A0 v0.length c0) (b := w.heap.size + 1) (by omega))
  have HV0 : Hid (OwnB w (w1.setCell ⟨w.heap.size + 1, 0, none⟩ (.slice A0 v0.length c0)) A0 v0.length c0 v0) := Lib.hid (own_set_t HV0.out HK3.out (by decide))
  have HK3 : Hid (Blk (w1.setCell ⟨w.heap.size + 1, 0, none⟩ (.slice A0 v0.length c0)) (w.heap.size + 1) 86 #[.slice A0 v0.length c0, .slice none 0 0]) := Lib.hid (HK3.out.set_ 0 (.slice A0 v0.length c0))
  clear HRC x0 f0 x1 f1
  generalize w1.setCell ⟨w.heap.size + 1, 0, none⟩ (.slice A0 v0.length c0) = wx1 at HR1 HK2 HK3 HV0 ⊢
  go_upto_region 4 with (first
    | (go_at_call 40; refine (C1.out _ HR1.out.r).mono ?_; rintro en w2 ⟨A1, c1, rfl, hv, hr, ho⟩
       have HRC := Lib.hid (HR1.out.call hr ho)
       have HK2 := Lib.hid (HK2.out.grown ho (by simpa using hne))
       have HK3 := Lib.hid (HK3.out.grown ho (by simpa using hne3))
       have HV0 := Lib.hid (own_read HV0.out ho HBL.out)
       have HV1 := Lib.hid (own_of HR1.out.size hv)
       have x0 := HK3.out.cell 0
       have f0 := HK3.out.frozen 0
       have x1 := HK3.out.cell 1
       have f1 := HK3.out.frozen 1
       clear hr ho C1 hv)
    | fail)
  have HR2 : Hid (RgSt w (w2.setCell ⟨w.heap.size + 1, 1, none⟩ (.slice A1 v1.length c1)) b s2) := Lib.hid (HRC.out.set HK3.out (by decide) (by decide) (by omega))
  have HK2 := Lib.hid (HK2.out.set_other (i := 1) (u := .slice A1 v1.length c1) (b := w.heap.size + 1) (by omega))
  have HV0 : Hid (OwnB w (w2.setCell ⟨w.heap.size + 1, 1, none⟩ (.slice A1 v1.length c1)) A0 v0.length c0 v0) := Lib.hid (own_set_t HV0.out HK3.out (by decide))
  have HV1 : Hid (OwnB w (w2.setCell ⟨w.heap.size + 1, 1, none⟩ (.slice A1 v1.length c1)) A1 v1.length c1 v1) := Lib.hid (own_set_t HV1.out HK3.out (by decide))
  have HK3 : Hid (Blk (w2.setCell ⟨w.heap.size + 1, 1, none⟩ (.slice A1 v1.length c1)) (w.heap.size + 1) 86 #[.slice A0 v0.length c0, .slice A1 v1.length c1]) := Lib.hid (HK3.out.set_ 1 (.slice A1 v1.length c1))
  clear HRC x0 f0 x1 f1
  generalize w2.setCell ⟨w.heap.size + 1, 1, none⟩ (.slice A1 v1.length c1) = wx2 at HR2 HK2 HK3 HV0 HV1 ⊢
  have HRN := HR2
  have x0 := HK2.out.cell 0
  have f0 := HK2.out.frozen 0
  have y0 := HK3.out.cell 0
  have x1 := HK2.out.cell 1
  have f1 := HK2.out.frozen 1
  have y1 := HK3.out.cell 1
  go_wp2_with fail
  have q0 := HK2.out
  have q1 := q0.set_ 0 (.slice A0 v0.length c0)
  have q2 := q1.set_ 1 (.slice A1 v1.length c1)
  refine bodyPost_ret (results_cell_row rfl _ _ _ _ _ _ _ rfl q2 Tryz.underlying86 rfl (by kernel_rfl)) rfl ?_
  have hrg := ((HRN.out).set (i := 0) (u := .slice A0 v0.length c0) q0 (by decide) (by decide) (Nat.le_refl _)).set (i := 1) (u := .slice A1 v1.length c1) q1 (by decide) (by decide) (Nat.le_refl _)
  rw [HRES.out]
  exact ⟨A0, c0, A1, c1, rfl, own_set_t (own_set_t (HV0.out) q0 (by decide)) q1 (by decide), own_set_t (own_set_t (HV1.out) q0 (by decide)) q1 (by decide), hrg.r, hrg.only⟩
set_option maxHeartbeats 4000000 in
set_option maxRecDepth 100000 in
theorem getLast_any (w : World) (b : Nat) (s : Pk.St) (h : RdrAt w b s) :
    Calls Tryz.prog 47 #[.pointer (some ⟨b, 0, none⟩)] w fun en w' => ∃ A c, en = .returned (.agg #[.int .i64 (getT1 s).1.s, .int .i64 (getT1 s).1.q, .int .i64 (getT1 s).1.e, .slice A (getT1 s).1.v.length c, .int .i64 (getT1 s).1.n]) ∧ OwnB w w' A (getT1 s).1.v.length c (getT1 s).1.v ∧ RdrAt w' b (getT1 s).2 ∧ Only b w w' := by
  have hbl := h.lt
  have HBL := Lib.hid hbl
  have h0 : RgSt w w b s := ⟨h, only_refl b w⟩
  obtain ⟨s0, es⟩ : ∃ x, s = x := ⟨_, rfl⟩
  obtain ⟨v0, d0⟩ : ∃ x, Pk.numV s0 1073741824 = x := ⟨_, rfl⟩
  obtain ⟨s1, e0⟩ : ∃ x, Pk.numS s0 1073741824 = x := ⟨_, rfl⟩
  obtain ⟨v1, d1⟩ : ∃ x, Pk.numV s1 1073741824 = x := ⟨_, rfl⟩
  obtain ⟨s2, e1⟩ : ∃ x, Pk.numS s1 1073741824 = x := ⟨_, rfl⟩
  obtain ⟨v2, d2⟩ : ∃ x, Pk.numV s2 10 = x := ⟨_, rfl⟩
  obtain ⟨s3, e2⟩ : ∃ x, Pk.numS s2 10 = x := ⟨_, rfl⟩
  obtain ⟨v3, d3⟩ : ∃ x, Pk.numV s3 1073741825 = x := ⟨_, rfl⟩
  obtain ⟨s4, e3⟩ : ∃ x, Pk.numS s3 1073741825 = x := ⟨_, rfl⟩
  obtain ⟨v4, d4⟩ : ∃ x, Pk.bytV s4 16 = x := ⟨_, rfl⟩
  obtain ⟨s5, e4⟩ : ∃ x, Pk.bytS s4 16 = x := ⟨_, rfl⟩
  have HRES : Hid (getT1 s0 = (⟨v0, v1, v2, v4, (v3 : Int) - 1⟩, s5)) := Lib.hid (by unfold getT1; simp only [e0, e1, e2, e3, e4, d0, d1, d2, d3, d4])
  have hv3 : (v3 : Int) ≤ 1073741825 := by rw [← d3]; exact numV_le _ (by omega)
  have hw3 : IntKind.i64.wrap ((v3 : Int) - 1) = (v3 : Int) - 1 := IntWalk.i64_in _ (by omega)
  clear hv3
  subst es
  have C0 := Lib.hid (fun w h => rnum_is w b _ 1073741824 h _ _ d0 e0)
  have C1 := Lib.hid (fun w h => rnum_is w b _ 1073741824 h _ _ d1 e1)
  have C2 := Lib.hid (fun w h => rnum_is w b _ 10 h _ _ d2 e2)
  have C3 := Lib.hid (fun w h => rnum_is w b _ 1073741825 h _ _ d3 e3)
  have C4 := Lib.hid (fun w h => getVal_any w b _ h d4 e4)
  clear d0 e0 d1 e1 d2 e2 d3 e3 d4 e4
  have bb : Below w.heap.size w ((w.alloc (.cells #[.int .i64 0, .int .i64 0, .int .i64 0, .slice none 0 0, .int .i64 0] 54)).alloc (.cells #[.int .i64 0, .int .i64 0, .int .i64 0, .slice none 0 0, .int .i64 0] 54)) := ((Below.refl _ _).alloc (Nat.le_refl _) _).alloc (by simp) _
  have HR0 := Lib.hid (h0.below bb)
  have HK2 := Lib.hid ((Blk.new w 54 #[.int .i64 0, .int .i64 0, .int .i64 0, .slice none 0 0, .int .i64 0]).alloc (.cells #[.int .i64 0, .int .i64 0, .int .i64 0, .slice none 0 0, .int .i64 0] 54))
  have HK3 := Lib.hid (Blk.new (w.alloc (.cells #[.int .i64 0, .int .i64 0, .int .i64 0, .slice none 0 0, .int .i64 0] 54)) 54 #[.int .i64 0, .int .i64 0, .int .i64 0, .slice none 0 0, .int .i64 0])
  rw [World.size_alloc] at HK3
  have hne : w.heap.size ≠ b := by omega
  have hne3 : w.heap.size + 1 ≠ b := by omega
  clear h h0 bb
  go_enter Tryz.func47, Tryz.ntmps47
  go_upto_region 2 with fail
  generalize (w.alloc (.cells #[.int .i64 0, .int .i64 0, .int .i64 0, .slice none 0 0, .int .i64 0] 54)).alloc (.cells #[.int .i64 0, .int .i64 0, .int .i64 0, .slice none 0 0, .int .i64 0] 54) = wx0 at HR0 HK2 HK3 ⊢
  go_upto_region 3 with (first
    | (go_at_call 70; refine (C0.out _ HR0.out.r).mono ?_; rintro en w1 ⟨rfl, hr, ho⟩
       have HRC := Lib.hid (HR0.out.call hr ho)
       have HK2 := Lib.hid (HK2.out.grown ho (by simpa using hne))
       have HK3 := Lib.hid (HK3.out.grown ho (by simpa using hne3))
       have x0 := HK3.out.cell 0
       have f0 := HK3.out.frozen 0
       have x1 := HK3.out.cell 1
       have f1 := HK3.out.frozen 1
       have x2 := HK3.out.cell 2
       have f2 := HK3.out.frozen 2
       have x3 := HK3.out.cell 3
       have f3 := HK3.out.frozen 3
       have x4 := HK3.out.cell 4
       have f4 := HK3.out.frozen 4
       clear hr ho C0)
    | fail)
  have HR1 : Hid (RgSt w (w1.setCell ⟨w.heap.size + 1, 0, none⟩ (.int .i64 (v0 : Int))) b s1) := Lib.hid (HRC.out.set HK3.out (by decide) (by decide) (by omega))
  have HK2 := Lib.hid (HK2.out.set_other (i := 0) (u := .int .i64 (v0 : Int)) (b := w.heap.size + 1) (by omega))
  have HK3 : Hid (Blk (w1.setCell ⟨w.heap.size + 1, 0, none⟩ (.int .i64 (v0 : Int))) (w.heap.size + 1) 54 #[.int .i64 (v0 : Int), .int .i64 0, .int .i64 0, .slice none 0 0, .int .i64 0]) := Lib.hid (HK3.out.set_ 0 (.int .i64 (v0 : Int)))
  clear HRC x0 f0 x1 f1 x2 f2 x3 f3 x4 f4
  generalize w1.setCell ⟨w.heap.size + 1, 0, none⟩ (.int .i64 (v0 : Int)) = wx1 at HR1 HK2 HK3  ⊢
  go_upto_region 4 with (first
    | (go_at_call 70; refine (C1.out _ HR1.out.r).mono ?_; rintro en w2 ⟨rfl, hr, ho⟩
       have HRC := Lib.hid (HR1.out.call hr ho)
       have HK2 := Lib.hid (HK2.out.grown ho (by simpa using hne))
       have HK3 := Lib.hid (HK3.out.grown ho (by simpa using hne3))
       have x0 := HK3.out.cell 0
       have f0 := HK3.out.frozen 0
       have x1 := HK3.out.cell 1
       have f1 := HK3.out.frozen 1
       have x2 := HK3.out.cell 2
       have f2 := HK3.out.frozen 2
       have x3 := HK3.out.cell 3
       have f3 := HK3.out.frozen 3
       have x4 := HK3.out.cell 4
       have f4 := HK3.out.frozen 4
       clear hr ho C1)
    | fail)
  have HR2 : Hid (RgSt w (w2.setCell ⟨w.heap.size + 1, 1, none⟩ (.int .i64 (v1 : Int))) b s2) := Lib.hid (HRC.out.set HK3.out (by decide) (by decide) (by omega))
  have HK2 := Lib.hid (HK2.out.set_other (i := 1) (u := .int .i64 (v1 : Int)) (b := w.heap.size + 1) (by omega))
  have HK3 : Hid (Blk (w2.setCell ⟨w.heap.size + 1, 1, none⟩ (.int .i64 (v1 : Int))) (w.heap.size + 1) 54 #[.int .i64 (v0 : Int), .int .i64 (v1 : Int), .int .i64 0, .slice none 0 0, .int .i64 0]) := Lib.hid (HK3.out.set_ 1 (.int .i64 (v1 : Int)))
  clear HRC x0 f0 x1 f1 x2 f2 x3 f3 x4 f4
  generalize w2.setCell ⟨w.heap.size + 1, 1, none⟩ (.int .i64 (v1 : Int)) = wx2 at HR2 HK2 HK3  ⊢
  go_upto_region 5 with (first
    | (go_at_call 70; refine (C2.out _ HR2.out.r).mono ?_; rintro en w3 ⟨rfl, hr, ho⟩
       have HRC := Lib.hid (HR2.out.call hr ho)
       have HK2 := Lib.hid (HK2.out.grown ho (by simpa using hne))
       have HK3 := Lib.hid (HK3.out.grown ho (by simpa using hne3))
       have x0 := HK3.out.cell 0
       have f0 := HK3.out.frozen 0
       have x1 := HK3.out.cell 1
       have f1 := HK3.out.frozen 1
       have x2 := HK3.out.cell 2
       have f2 := HK3.out.frozen 2
       have x3 := HK3.out.cell 3
       have f3 := HK3.out.frozen 3
       have x4 := HK3.out.cell 4
       have f4 := HK3.out.frozen 4
       clear hr ho C2)
    | fail)
  have HR3 : Hid (RgSt w (w3.setCell ⟨w.heap.size + 1, 2, none⟩ (.int .i64 (v2 : Int))) b s3) := Lib.hid (HRC.out.set HK3.out (by decide) (by decide) (by omega))
  have HK2 := Lib.hid (HK2.out.set_other (i := 2) (u := .int .i64 (v2 : Int)) (b := w.heap.size + 1) (by omega))
  have HK3 : Hid (Blk (w3.setCell ⟨w.heap.size + 1, 2, none⟩ (.int .i64 (v2 : Int))) (w.heap.size + 1) 54 #[.int .i64 (v0 : Int), .int .i64 (v1 : Int), .int .i64 (v2 : Int), .slice none 0 0, .int .i64 0]) := Lib.hid (HK3.out.set_ 2 (.int .i64 (v2 : Int)))
  clear HRC x0 f0 x1 f1 x2 f2 x3 f3 x4 f4
  generalize w3.setCell ⟨w.heap.size + 1, 2, none⟩ (.int .i64 (v2 : Int)) = wx3 at HR3 HK2 HK3  ⊢
  go_upto_region 6 with (first
    | (go_at_call 70; refine (C3.out _ HR3.out.r).mono ?_; rintro en w4 ⟨rfl, hr, ho⟩
       have HRC := Lib.hid (HR3.out.call hr ho)
       have HK2 := Lib.hid (HK2.out.grown ho (by simpa using hne))
       have HK3 := Lib.hid (HK3.out.grown ho (by simpa using hne3))
       have x0 := HK3.out.cell 0
       have f0 := HK3.out.frozen 0
       have x1 := HK3.out.cell 1
       have f1 := HK3.out.frozen 1
       have x2 := HK3.out.cell 2
       have f2 := HK3.out.frozen 2
       have x3 := HK3.out.cell 3
       have f3 := HK3.out.frozen 3
       have x4 := HK3.out.cell 4
       have f4 := HK3.out.frozen 4
       clear hr ho C3)
    | fail)
  have HR4 : Hid (RgSt w (w4.setCell ⟨w.heap.size + 1, 4, none⟩ (.int .i64 ((v3 : Int) - 1))) b s4) := Lib.hid (HRC.out.set HK3.out (by decide) (by decide) (by omega))
  have HK2 := Lib.hid (HK2.out.set_other (i := 4) (u := .int .i64 ((v3 : Int) - 1)) (b := w.heap.size + 1) (by omega))
  have HK3 : Hid (Blk (w4.setCell ⟨w.heap.size + 1, 4, none⟩ (.int .i64 ((v3 : Int) - 1))) (w.heap.size + 1) 54 #[.int .i64 (v0 : Int), .int .i64 (v1 : Int), .int .i64 (v2 : Int), .slice none 0 0, .int .i64 ((v3 : Int) - 1)]) := Lib.hid (HK3.out.set_ 4 (.int .i64 ((v3 : Int) - 1)))
  clear HRC x0 f0 x1 f1 x2 f2 x3 f3 x4 f4
  generalize w4.setCell ⟨w.heap.size + 1, 4, none⟩ (.int .i64 ((v3 : Int) - 1)) = wx4 at HR4 HK2 HK3  ⊢
  go_upto_region 7 with (first
    | (go_at_call 40; refine (C4.out _ HR4.out.r).mono ?_; rintro en w5 ⟨A4, c4, rfl, hv, hr, ho⟩
       have HRC := Lib.hid (HR4.out.call hr ho)
       have HK2 := Lib.hid (HK2.out.grown ho (by simpa using hne))
       have HK3 := Lib.hid (HK3.out.grown ho (by simpa using hne3))
       have HV4 := Lib.hid (own_of HR4.out.size hv)
       have x0 := HK3.out.cell 0
       have f0 := HK3.out.frozen 0
       have x1 := HK3.out.cell 1
       have f1 := HK3.out.frozen 1
       have x2 := HK3.out.cell 2
       have f2 := HK3.out.frozen 2
       have x3 := HK3.out.cell 3
       have f3 := HK3.out.frozen 3
       have x4 := HK3.out.cell 4
       have f4 := HK3.out.frozen 4
       clear hr ho C4 hv)
    | fail)
  have HR5 : Hid (RgSt w (w5.setCell ⟨w.heap.size + 1, 3, none⟩ (.slice A4 v4.length c4)) b s5) := Lib.hid (HRC.out.set HK3.out (by decide) (by decide) (by omega))
  have HK2 := Lib.hid (HK2.out.set_other (i := 3) (u := .slice A4 v4.length c4) (b := w.heap.size + 1) (by omega))
  have HV4 : Hid (OwnB w (w5.setCell ⟨w.heap.size + 1, 3, none⟩ (.slice A4 v4.length c4)) A4 v4.length c4 v4) := Lib.hid (own_set_t HV4.out HK3.out (by decide))
  have HK3 : Hid (Blk (w5.setCell ⟨w.heap.size + 1, 3, none⟩ (.slice A4 v4.length c4)) (w.heap.size + 1) 54 #[.int .i64 (v0 : Int), .int .i64 (v1 : Int), .int .i64 (v2 : Int), .slice A4 v4.length c4, .int .i64 ((v3 : Int) - 1)]) := Lib.hid (HK3.out.set_ 3 (.slice A4 v4.length c4))
  clear HRC x0 f0 x1 f1 x2 f2 x3 f3 x4 f4
  generalize w5.setCell ⟨w.heap.size + 1, 3, none⟩ (.slice A4 v4.length c4) = wx5 at HR5 HK2 HK3 HV4 ⊢
  have HRN := HR5
  have x0 := HK2.out.cell 0
  have f0 := HK2.out.frozen 0
  have y0 := HK3.out.cell 0
  have x1 := HK2.out.cell 1
  have f1 := HK2.out.frozen 1
  have y1 := HK3.out.cell 1
  have x2 := HK2.out.cell 2
  have f2 := HK2.out.frozen 2
  have y2 := HK3.out.cell 2
  have x3 := HK2.out.cell 3
  have f3 := HK2.out.frozen 3
  have y3 := HK3.out.cell 3
  have x4 := HK2.out.cell 4
  have f4 := HK2.out.frozen 4
  have y4 := HK3.out.cell 4
  go_wp2_with fail
  have q0 := HK2.out
  have q1 := q0.set_ 0 (.int .i64 (v0 : Int))
  have q2 := q1.set_ 1 (.int .i64 (v1 : Int))
  have q3 := q2.set_ 2 (.int .i64 (v2 : Int))
  have q4 := q3.set_ 3 (.slice A4 v4.length c4)
  have q5 := q4.set_ 4 (.int .i64 ((v3 : Int) - 1))
  refine bodyPost_ret (results_cell_row rfl _ _ _ _ _ _ _ rfl q5 Tryz.underlying54 rfl (by kernel_rfl)) rfl ?_
  have hrg := (((((HRN.out).set (i := 0) (u := .int .i64 (v0 : Int)) q0 (by decide) (by decide) (Nat.le_refl _)).set (i := 1) (u := .int .i64 (v1 : Int)) q1 (by decide) (by decide) (Nat.le_refl _)).set (i := 2) (u := .int .i64 (v2 : Int)) q2 (by decide) (by decide) (Nat.le_refl _)).set (i := 3) (u := .slice A4 v4.length c4) q3 (by decide) (by decide) (Nat.le_refl _)).set (i := 4) (u := .int .i64 ((v3 : Int) - 1)) q4 (by decide) (by decide) (Nat.le_refl _)
  rw [HRES.out]
  exact ⟨A4, c4, rfl, own_set_t (own_set_t (own_set_t (own_set_t (own_set_t (HV4.out) q0 (by decide)) q1 (by decide)) q2 (by decide)) q3 (by decide)) q4 (by decide), hrg.r, hrg.only⟩
end Go.Proofs.YthfnnieklkaefaaGreat

