/- GathLaws -/
import Derived.Test.YtneehnoolhadbaaGF12
namespace Go.Proofs.Ytneehnoolhadbaa
open Go.RowKit
set_option linter.unusedVariables false
namespace Gm
/-- GathForms: nobody has a state; come is who has come -/
structure GfInv (N : Nat) (g : Gm) (cm : Nat) : Prop where
  n : g.n = N
  v : g.v = 9
  com : g.com = none
  has : ∀ s ∈ g.l, s.has = false
  come : came g.l = cm
theorem GfInv.take {N cm : Nat} {g : Gm} (h : GfInv N g cm) (hok : g.Ok) {fr vv : Int} {r : Bool} (hr : g.may ⟨2, fr, 0, 0, false⟩ vv = r) : GfInv N (g.take ⟨2, fr, 0, 0, false⟩ vv) (if r = true then cm ||| 2 ^ fr.toNat else cm) := by
  unfold Gm.take
  cases r with
  | false =>
    rw [if_neg (by rw [hr]; decide), if_neg (by decide)]; exact h
  | true =>
    rw [if_pos hr, if_pos rfl]
    refine ⟨h.n, h.v, h.com, fun s hs => ?_, ?_⟩
    · rcases List.mem_append.1 hs with hs | hs
      · exact h.has s hs
      · obtain rfl := List.mem_singleton.1 hs; rfl
    · show came (g.l ++ [_]) = _
      rw [came_snoc, h.come]
theorem pick_none {g : Gm} (hc : g.com = none) (hh : ∀ s ∈ g.l, s.has = false) : g.pick = none := by
  unfold pick
  rw [hc]
  have hb := Vw.best_is (Vw.top g.l) g.l
  cases he : Vw.best (Vw.top g.l) g.l with
  | none => rfl
  | some b =>
    rw [he] at hb
    have := hh b hb.1.1
    rw [hb.1.2.1] at this; cases this
theorem commit_none {g : Gm} (hc : g.com = none) (hp : g.pick = none) : g.commit = g := by
  unfold commit
  rw [hp, ← hc]
theorem unready_none {g : Gm} (hc : g.com = none) : g.unready = 0 := by
  unfold unready mask
  rw [hc]
  exact zero_dif _
theorem mayR_none {g : Gm} (hc : g.com = none) (k : Int) : g.mayR k = false := by
  unfold mayR
  rw [unready_none hc]
  simp
theorem done_none {g : Gm} (hc : g.com = none) : g.done = false := by unfold done; rw [hc]; rfl
end Gm
end Go.Proofs.Ytneehnoolhadbaa

