/- MesgW -/
import Derived.Test.YtlfkgpllleogoaaMT16
import Derived.Test.YtlfkgpllleogoaaMT19
namespace Go.Proofs.Ytlfkgpllleogoaa
open Go.RowKit
set_option linter.unusedVariables false
/-- a writer: what it laid, and whether it failed -/
def WrAt (W w : World) (b : Nat) (L : List Nat) (f : Bool) : Prop :=
  ∃ A c, Blk w b 64 #[.slice A L.length c, .bool f] ∧ OwnB W w A L.length c L ∧ Below W.heap.size W w ∧ W.heap.size ≤ b
theorem WrAt.below {W w w' : World} {b : Nat} {L : List Nat} {f : Bool} (h : WrAt W w b L f) (hb : Below w.heap.size w w') : WrAt W w' b L f := by
  obtain ⟨A, c, h1, h2, h3, h4⟩ := h
  exact ⟨A, c, h1.below hb, own_below h2 hb, h3.trans (hb.mono h3.size), h4⟩
theorem WrAt.lt {W w : World} {b : Nat} {L : List Nat} {f : Bool} (h : WrAt W w b L f) : b < w.heap.size := by
  obtain ⟨A, c, h1, h2⟩ := h
  exact h1.lt
/-- a block that is no bytes turns -/
theorem WrAt.set {W w : World} {b g i : Nat} {L : List Nat} {f : Bool} {t : TypeId} {cs : Array Value} {u : Value} (h : WrAt W w b L f) (hk : Blk w g t cs) (h1 : 5 ≠ t) (hne : b ≠ g) (hg : W.heap.size ≤ g) : WrAt W (w.setCell ⟨g, i, none⟩ u) b L f := by
  obtain ⟨A, c, k1, k2, k3, k4⟩ := h
  exact ⟨A, c, k1.set_other hne, own_set_t k2 hk h1, k3.setCell hg _, k4⟩
/-- what a method leaves -/
def WrP (W w : World) (b : Nat) (L : List Nat) (f ok : Bool) (X : List Nat) (d : Nat) (w' : World) : Prop :=
  ∃ L' f', WrAt W w' b L' f' ∧ Only b w w' ∧ f' = (f || !ok) ∧ (f' = false → L' = L ++ X) ∧ L'.length ≤ L.length + d
theorem WrP.no {W w : World} {b d : Nat} {L : List Nat} {f ok : Bool} {X : List Nat} (h : WrAt W w b L f) (hok : ok = false) : WrP W w b L f ok X d (w.setCell ⟨b, 1, none⟩ (.bool true)) := by
  obtain ⟨A, c, k1, k2, k3, k4⟩ := h
  refine ⟨L, true, ⟨A, c, k1.set_ 1 _, own_set_t k2 k1 (by decide), k3.setCell k4 _, k4⟩, only_set (only_refl b w) 1 _, by rw [hok]; simp, (fun h => absurd h (by decide)), by omega⟩
theorem WrP.yes {W w w1 : World} {b d : Nat} {L L' : List Nat} {f ok : Bool} {X : List Nat} {A' : Option Addr} {c' : Nat} (h : WrAt W w b L f) (hok : ok = true) (hX : L ++ X = L') (hl : X.length ≤ d) (ho : OwnB W w1 A' L'.length c' L') (hb : Below w.heap.size w w1) :
    WrP W w b L f ok X d (w1.setCell ⟨b, 0, none⟩ (.slice A' L'.length c')) := by
  have hbl := h.lt
  obtain ⟨A, c, k1, k2, k3, k4⟩ := h
  refine ⟨L', f, ⟨A', c', (k1.below hb).set_ 0 _, own_set_t ho (k1.below hb) (by decide), (k3.trans (hb.mono k3.size)).setCell k4 _, k4⟩, ?_, by rw [hok]; simp, fun h => hX.symm, by rw [← hX, List.length_append]; omega⟩
  exact only_set (only_below (only_refl b w) hb (Nat.le_refl _)) 0 _
theorem eI_length (z : Int) : (eI z).length ≤ 9 := (Pk.enc_length _).2
set_option maxRecDepth 100000 in
theorem wnum_any {W w : World} {b : Nat} {L : List Nat} {f : Bool} (h : WrAt W w b L f) (hl : L.length ≤ 1000000) (z most : Int) :
    Calls Try.prog 101 #[.pointer (some ⟨b, 0, none⟩), .int .i64 z, .int .i64 most] w fun e w' => e = .returned (.int .i64 (if wi most z then z else 0)) ∧ WrP W w b L f (wi most z) (eI z) 9 w' := by
  have HW := Lib.hid h
  obtain ⟨A, c, k1, k2, k3, k4⟩ := h
  have x0 : w.cell? ⟨b, 0, none⟩ = some (.slice A L.length c) := k1.cell 0
  have x1 : w.cell? ⟨b, 1, none⟩ = some (.bool f) := k1.cell 1
  have f0 := k1.frozen 0
  have f1 := k1.frozen 1
  have hk1 := Lib.hid k1
  by_cases h0 : z < 0
  · have hw : wi most z = false := by unfold wi; simp; omega
    rw [hw]
    clear k1 k2 k3 k4
    go_enter Try.func101, Try.ntmps101
    go_wp2_with fail
    go_ret
    exact ⟨rfl, WrP.no HW.out rfl⟩
  by_cases h1 : most < z
  · have hw : wi most z = false := by unfold wi; simp; omega
    rw [hw]
    clear k1 k2 k3 k4
    go_enter Try.func101, Try.ntmps101
    go_wp2_with fail
    go_ret
    exact ⟨rfl, WrP.no HW.out rfl⟩
  have hw : wi most z = true := wi_iff.2 ⟨by omega, by omega⟩
  rw [hw]
  obtain ⟨L', hL'⟩ : ∃ x, L ++ eI z = x := ⟨_, rfl⟩
  have HC := Lib.hid (put_in (W := W) (N := z) (c := c) (by unfold Lim; omega) (Rd.own_ k2) k3 hL')
  clear k1 k2 k3 k4
  go_enter Try.func101, Try.ntmps101
  go_wp2_with (first
    | (go_at_call 59; refine HC.out.mono ?_; rintro en w1 ⟨A1, n1, c1, rfl, ho, hB1, hb1⟩; obtain rfl := own_len ho; have f0 := (hk1.out.below hb1).frozen 0; have x0 : w1.cell? ⟨b, 0, none⟩ = some (.slice A L.length c) := (hk1.out.below hb1).cell 0)
    | fail)
  go_ret
  exact ⟨rfl, WrP.yes HW.out rfl hL' (eI_length z) ho hb1⟩
set_option maxRecDepth 100000 in
theorem wdata_any {W w : World} {b : Nat} {L : List Nat} {f : Bool} {A' : Option Addr} {c' B' : Nat} {x : List Nat} (h : WrAt W w b L f) (hl : L.length ≤ 1000000) (hr : Rd w B' A' x.length (bv x)) (most : Int) (hm : most ≤ 100) :
    Calls Try.prog 99 #[.pointer (some ⟨b, 0, none⟩), .slice A' x.length c', .int .i64 most] w fun e w' => (∃ A n c, e = .returned (.slice A n c)) ∧ WrP W w b L f (decide ((x.length : Int) ≤ most)) (Pk.encB x) 109 w' := by
  have HW := Lib.hid h
  obtain ⟨A, c, k1, k2, k3, k4⟩ := h
  have x0 : w.cell? ⟨b, 0, none⟩ = some (.slice A L.length c) := k1.cell 0
  have x1 : w.cell? ⟨b, 1, none⟩ = some (.bool f) := k1.cell 1
  have f0 := k1.frozen 0
  have f1 := k1.frozen 1
  have hk1 := Lib.hid k1
  by_cases h1 : most < (x.length : Int)
  · have hw : decide ((x.length : Int) ≤ most) = false := by simp; omega
    rw [hw]
    clear k1 k2 k3 k4
    go_enter Try.func99, Try.ntmps99
    go_wp2_with fail
    go_ret
    exact ⟨⟨_, _, _, rfl⟩, WrP.no HW.out rfl⟩
  have hw : decide ((x.length : Int) ≤ most) = true := by simp; omega
  rw [hw]
  obtain ⟨L', hL'⟩ : ∃ y, L ++ Pk.encB x = y := ⟨_, rfl⟩
  have HC := Lib.hid (putb_in (W := W) (c := c) (c' := c') (Rd.own_ k2) hr (by unfold Lim; omega) k3 hL')
  clear k1 k2 k3 k4
  go_enter Try.func99, Try.ntmps99
  go_wp2_with (first
    | (go_at_call 103; refine HC.out.mono ?_; rintro en w1 ⟨A1, n1, c1, rfl, ho, hB1, hb1⟩; obtain rfl := own_len ho; have f0 := (hk1.out.below hb1).frozen 0; have x0 : w1.cell? ⟨b, 0, none⟩ = some (.slice A L.length c) := (hk1.out.below hb1).cell 0)
    | fail)
  go_ret
  exact ⟨⟨_, _, _, rfl⟩, WrP.yes HW.out rfl hL' (by have := encB_length x; omega) ho hb1⟩
end Go.Proofs.Ytlfkgpllleogoaa

