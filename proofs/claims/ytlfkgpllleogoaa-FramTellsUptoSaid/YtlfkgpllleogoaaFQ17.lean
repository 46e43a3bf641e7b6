/- MesgW MesgW2 -/
import Derived.Test.YtlfkgpllleogoaaFQ14
import Derived.Test.YtlfkgpllleogoaaFQ16
namespace Go.Proofs.Ytlfkgpllleogoaa
open Go.RowKit
set_option linter.unusedVariables false
/-- a writer: what it laid, and whether it failed -/
def WrAt (W w : World) (b : Nat) (L : List Nat) (f : Bool) : Prop :=
  ∃ A c, Blk w b 64 #[.slice A L.length c, .bool f] ∧ OwnB W w A L.length c L ∧ Below W.heap.size W w ∧ W.heap.size ≤ b
theorem WrAt.below {W w w' : World} {b : Nat} {L : List Nat} {f : Bool} (h : WrAt W w b L f) (hb : Below w.heap.size w w') : WrAt W w' b L f := by
  obtain ⟨A, c, h1, h2, h3, h4⟩ := h
  exact ⟨A, c, h1.below hb, own_below h2 hb, h3.trans (hb.mono h3.size), h4⟩
theorem WrAt.lt {W w : World} {b : Nat} {L : List Nat} {f : Bool} (h : WrAt W w b L f) : b < w.heap.size := by
  obtain ⟨A, c, h1, h2⟩ := h
  exact h1.lt
/-- a block that is no bytes turns -/
theorem WrAt.set {W w : World} {b g i : Nat} {L : List Nat} {f : Bool} {t : TypeId} {cs : Array Value} {u : Value} (h : WrAt W w b L f) (hk : Blk w g t cs) (h1 : 5 ≠ t) (hne : b ≠ g) (hg : W.heap.size ≤ g) : WrAt W (w.setCell ⟨g, i, none⟩ u) b L f := by
  obtain ⟨A, c, k1, k2, k3, k4⟩ := h
  exact ⟨A, c, k1.set_other hne, own_set_t k2 hk h1, k3.setCell hg _, k4⟩
/-- what a method leaves -/
def WrP (W w : World) (b : Nat) (L : List Nat) (f ok : Bool) (X : List Nat) (d : Nat) (w' : World) : Prop :=
  ∃ L' f', WrAt W w' b L' f' ∧ Only b w w' ∧ f' = (f || !ok) ∧ (f' = false → L' = L ++ X) ∧ L'.length ≤ L.length + d
theorem WrP.no {W w : World} {b d : Nat} {L : List Nat} {f ok : Bool} {X : List Nat} (h : WrAt W w b L f) (hok : ok = false) : WrP W w b L f ok X d (w.setCell ⟨b, 1, none⟩ (.bool true)) := by
  obtain ⟨A, c, k1, k2, k3, k4⟩ := h
  refine ⟨L, true, ⟨A, c, k1.set_ 1 _, own_set_t k2 k1 (by decide), k3.setCell k4 _, k4⟩, only_set (only_refl b w) 1 _, by rw [hok]; simp, (fun h => absurd h (by decide)), by omega⟩
theorem WrP.yes {W w w1 : World} {b d : Nat} {L L' : List Nat} {f ok : Bool} {X : List Nat} {A' : Option Addr} {c' : Nat} (h : WrAt W w b L f) (hok : ok = true) (hX : L ++ X = L') (hl : X.length ≤ d) (ho : OwnB W w1 A' L'.length c' L') (hb : Below w.heap.size w w1) :
    WrP W w b L f ok X d (w1.setCell ⟨b, 0, none⟩ (.slice A' L'.length c')) := by
  have hbl := h.lt
  obtain ⟨A, c, k1, k2, k3, k4⟩ := h
  refine ⟨L', f, ⟨A', c', (k1.below hb).set_ 0 _, own_set_t ho (k1.below hb) (by decide), (k3.trans (hb.mono k3.size)).setCell k4 _, k4⟩, ?_, by rw [hok]; simp, fun h => hX.symm, by rw [← hX, List.length_append]; omega⟩
  exact only_set (only_below (only_refl b w) hb (Nat.le_refl _)) 0 _
theorem eI_length (z : Int) : (eI z).length ≤ 9 := (Pk.enc_length _).2
set_option maxRecDepth 100000 in
theorem wnum_any {W w : World} {b : Nat} {L : List Nat} {f : Bool} (h : WrAt W w b L f) (hl : L.length ≤ 1000000) (z most : Int) :
    Calls Try.prog 101 #[.pointer (some ⟨b, 0, none⟩), .int .i64 z, .int .i64 most] w fun e w' => e = .returned (.int .i64 (if wi most z then z else 0)) ∧ WrP W w b L f (wi most z) (eI z) 9 w' := by
  have HW := Lib.hid h
  obtain ⟨A, c, k1, k2, k3, k4⟩ := h
  have x0 : w.cell? ⟨b, 0, none⟩ = some (.slice A L.length c) := k1.cell 0
  have x1 : w.cell? ⟨b, 1, none⟩ = some (.bool f) := k1.cell 1
  have f0 := k1.frozen 0
  have f1 := k1.frozen 1
  have hk1 := Lib.hid k1
  by_cases h0 : z < 0
  · have hw : wi most z = false := by unfold wi; simp; omega
    rw [hw]
    clear k1 k2 k3 k4
    go_enter Try.func101, Try.ntmps101
    go_wp2_with fail
    go_ret
    exact ⟨rfl, WrP.no HW.out rfl⟩
  by_cases h1 : most < z
  · have hw : wi most z = false := by unfold wi; simp; omega
    rw [hw]
    clear k1 k2 k3 k4
    go_enter Try.func101, Try.ntmps101
    go_wp2_with fail
    go_ret
    exact ⟨rfl, WrP.no HW.out rfl⟩
  have hw : wi most z = true := wi_iff.2 ⟨by omega, by omega⟩
  rw [hw]
  obtain ⟨L', hL'⟩ : ∃ x, L ++ eI z = x := ⟨_, rfl⟩
  have HC := Lib.hid (put_in (W := W) (N := z) (c := c) (by unfold Lim; omega) (Rd.own_ k2) k3 hL')
  clear k1 k2 k3 k4
  go_enter Try.func101, Try.ntmps101
  go_wp2_with (first
    | (go_at_call 59; refine HC.out.mono ?_; rintro en w1 ⟨A1, n1, c1, rfl, ho, hB1, hb1⟩; obtain rfl := own_len ho; have f0 := (hk1.out.below hb1).frozen 0; have x0 : w1.cell? ⟨b, 0, none⟩ = some (.slice A L.length c) := (hk1.out.below hb1).cell 0)
    | fail)
  go_ret
  exact ⟨rfl, WrP.yes HW.out rfl hL' (eI_length z) ho hb1⟩
set_option maxRecDepth 100000 in
theorem wdata_any {W w : World} {b : Nat} {L : List Nat} {f : Bool} {A' : Option Addr} {c' B' : Nat} {x : List Nat} (h : WrAt W w b L f) (hl : L.length ≤ 1000000) (hr : Rd w B' A' x.length (bv x)) (most : Int) (hm : most ≤ 100) :
    Calls Try.prog 99 #[.pointer (some ⟨b, 0, none⟩), .slice A' x.length c', .int .i64 most] w fun e w' => (∃ A n c, e = .returned (.slice A n c)) ∧ WrP W w b L f (decide ((x.length : Int) ≤ most)) (Pk.encB x) 109 w' := by
  have HW := Lib.hid h
  obtain ⟨A, c, k1, k2, k3, k4⟩ := h
  have x0 : w.cell? ⟨b, 0, none⟩ = some (.slice A L.length c) := k1.cell 0
  have x1 : w.cell? ⟨b, 1, none⟩ = some (.bool f) := k1.cell 1
  have f0 := k1.frozen 0
  have f1 := k1.frozen 1
  have hk1 := Lib.hid k1
  by_cases h1 : most < (x.length : Int)
  · have hw : decide ((x.length : Int) ≤ most) = false := by simp; omega
    rw [hw]
    clear k1 k2 k3 k4
    go_enter Try.func99, Try.ntmps99
    go_wp2_with fail
    go_ret
    exact ⟨⟨_, _, _, rfl⟩, WrP.no HW.out rfl⟩
  have hw : decide ((x.length : Int) ≤ most) = true := by simp; omega
  rw [hw]
  obtain ⟨L', hL'⟩ : ∃ y, L ++ Pk.encB x = y := ⟨_, rfl⟩
  have HC := Lib.hid (putb_in (W := W) (c := c) (c' := c') (Rd.own_ k2) hr (by unfold Lim; omega) k3 hL')
  clear k1 k2 k3 k4
  go_enter Try.func99, Try.ntmps99
  go_wp2_with (first
    | (go_at_call 103; refine HC.out.mono ?_; rintro en w1 ⟨A1, n1, c1, rfl, ho, hB1, hb1⟩; obtain rfl := own_len ho; have f0 := (hk1.out.below hb1).frozen 0; have x0 : w1.cell? ⟨b, 0, none⟩ = some (.slice A L.length c) := (hk1.out.below hb1).cell 0)
    | fail)
  go_ret
  exact ⟨⟨_, _, _, rfl⟩, WrP.yes HW.out rfl hL' (by have := encB_length x; omega) ho hb1⟩
end Go.Proofs.Ytlfkgpllleogoaa

namespace Go.Proofs.Ytlfkgpllleogoaa
open Go.RowKit
set_option linter.unusedVariables false
theorem all_take_succ {l : List Int} {k : Nat} {z : Int} {p : Int → Bool} (h : l[k]? = some z) : (l.take (k + 1)).all p = ((l.take k).all p && p z) := by
  rw [take_snoc h, List.all_append]; simp
set_option maxHeartbeats 2000000 in
set_option maxRecDepth 100000 in
theorem wnums_any {W w : World} {b : Nat} {L : List Nat} {f : Bool} {A' : Option Addr} {c' : Nat} {l : List Int} (h : WrAt W w b L f) (hl : L.length ≤ 100000) (hr : Rd W W.heap.size A' l.length (iv l)) (hc : l.length ≤ c' ∧ c' ≤ maxLen) (most : Nat) (hm : most ≤ 8) :
    Calls Try.prog 102 #[.pointer (some ⟨b, 0, none⟩), .slice A' l.length c', .int .i64 (most : Int)] w fun e w' => (∃ A n c, e = .returned (.slice A n c)) ∧ WrP W w b L f (wis most l) (encN l.length ++ Pk.encs l) 100 w' := by
  have HC0 := Lib.hid (wnum_any h (by omega) (l.length : Int) (most : Int))
  by_cases h1 : most < l.length
  · have hw : wis most l = false := by unfold wis; simp; omega
    have hw2 : wi (most : Int) (l.length : Int) = false := by unfold wi; simp; omega
    rw [hw2] at HC0
    rw [hw]
    clear h hr hw hw2
    simp only [Bool.false_eq_true, if_false] at HC0
    go_enter Try.func102, Try.ntmps102
    go_wp2_with (first
      | (go_at_call 101; refine HC0.out.mono ?_; rintro en w1 ⟨rfl, hP⟩; have HP := Lib.hid hP; clear hP)
      | fail)
    go_loopw [8, 18] (fun s8 s18 wr => wr = w1 ∧ s18 = .int .i64 0) (fun _ _ _ => 0)
    case atStart => exact ⟨rfl, rfl⟩
    case round =>
      obtain ⟨rfl, rfl⟩ := hrel
      go_wp2_with fail
      go_ret
      obtain ⟨L', f', k1, k2, k3, k4, k5⟩ := HP.out
      refine ⟨⟨_, _, _, rfl⟩, L', f', k1, k2, k3, fun hf => ?_, by omega⟩
      rw [k3] at hf; simp at hf
  have hw2 : wi (most : Int) (l.length : Int) = true := wi_iff.2 ⟨by omega, by omega⟩
  rw [hw2] at HC0
  simp only [if_true] at HC0
  have hw : wis most l = l.all (wi 1099511627776) := by
    unfold wis; rw [show decide (l.length ≤ most) = true by simp; omega]; rfl
  rw [hw]
  have hn8 : l.length ≤ 8 := by omega
  obtain ⟨n, hn⟩ : ∃ n, l.length = n := ⟨_, rfl⟩
  rw [hn] at hr hc hn8 HC0 ⊢
  have HR := Lib.hid hr
  have HN := Lib.hid hn
  clear h hr hw hw2 h1 hn
  go_enter Try.func102, Try.ntmps102
  go_wp2_with (first
    | (go_at_call 101; refine HC0.out.mono ?_; rintro en w1 ⟨rfl, hP⟩; have HP := Lib.hid hP; clear hP)
    | fail)
  go_loopw [8, 18] (fun s8 s18 wr => ∃ (k : Nat) (L1 : List Nat) (f1 : Bool), k ≤ n ∧ s18 = .int .i64 (k : Int) ∧ Hid (WrAt W wr b L1 f1) ∧ Hid (Only b w wr) ∧ Hid (f1 = (f || !(l.take k).all (wi 1099511627776))) ∧ Hid (f1 = false → L1 = L ++ (encN n ++ Pk.encs (l.take k))) ∧ Hid (L1.length ≤ L.length + 9 * (k + 1))) (fun _ s18 _ => n - (intOf s18).toNat)
  case atStart =>
    obtain ⟨L1, f1, k1, k2, k3, k4, k5⟩ := HP.out
    exact ⟨0, L1, f1, Nat.zero_le _, rfl, Lib.hid k1, Lib.hid k2, Lib.hid (by rw [k3]; simp), Lib.hid (fun hf => by rw [k4 hf]; simp [Pk.encs]; rfl), Lib.hid (by omega)⟩
  case round =>
    obtain ⟨k, L1, f1, hk, rfl, HW, HO, HF, HX, HL⟩ := hrel
    by_cases hlt : k < n
    · obtain ⟨z, hz⟩ : ∃ z, l[k]? = some z := ⟨_, List.getElem?_eq_getElem (by have := HN.out; omega)⟩
      have hwb : Below W.heap.size W wr := by obtain ⟨_, _, _, _, q, _⟩ := HW.out; exact q
      have hrd := HR.out.below hwb
      obtain ⟨bq, o, rfl, _⟩ := hrd.int_at hlt
      have y0 := hrd.int_cell hlt hz
      have hL1 : L1.length ≤ 1000000 := by have := HL.out; omega
      have HCN := Lib.hid (wnum_any HW.out hL1 z 1099511627776)
      have HZ := Lib.hid hz
      clear hrd hwb hz
      go_wp2_with (first
        | (go_at_call 101; refine HCN.out.mono ?_; rintro en w4 ⟨rfl, hP4⟩; have HP4 := Lib.hid hP4; clear hP4)
        | fail)
      go_roundw
      case rel =>
        obtain ⟨L2, f2, k1, k2, k3, k4, k5⟩ := HP4.out
        refine ⟨k + 1, L2, f2, by omega, by go_num, Lib.hid k1, Lib.hid (only_trans HO.out k2), Lib.hid ?_, Lib.hid (fun hf => ?_), Lib.hid (by have := HL.out; omega)⟩
        · rw [k3, HF.out, all_take_succ HZ.out]
          cases f <;> cases (l.take k).all (wi 1099511627776) <;> cases wi 1099511627776 z <;> rfl
        · have hf1 : f1 = false := by rw [hf] at k3; cases f1 <;> simp at k3 ⊢
          rw [k4 hf, HX.out hf1, take_snoc HZ.out, Pk.encs_snoc]
          unfold eI
          simp only [List.append_assoc]
      case measure => simp only [intOf]; omega
    · obtain rfl : k = n := by omega
      go_wp2_with fail
      go_ret
      have hT : l.take k = l := List.take_of_length_le (by have := HN.out; omega)
      refine ⟨⟨_, _, _, rfl⟩, L1, f1, HW.out, HO.out, ?_, fun hf => ?_, by have := HL.out; omega⟩
      · rw [HF.out, hT]
      · rw [HX.out hf, hT]
end Go.Proofs.Ytlfkgpllleogoaa

