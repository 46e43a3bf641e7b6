/- LockForms: the walk, over any contracts of the code's. -/
import Derived.Test.YtkmkejmpdjefgaaLockOwnCore
namespace Go.Proofs.Ytkmkejmpdjefgaa
open Go.RowKit
set_option linter.unusedVariables false
/-- a row by hand -/
structure RowOk6 (s : List Int) (take : Bool) (who : Int) (want : List Int) (e N : Int) : Prop where
  nod : s.Nodup
  few : s.length ≤ 5 ∧ want.length ≤ 5
  ok : if take = true then takeS s who = want ∧ takeE s who = e ∧ takeN s who = N else s.erase who = want ∧ freeE s who = e ∧ freeN s who = N
theorem rd_new (w : World) (cs : Array Value) (t : TypeId) (mark : Nat × Nat) {g : Nat} (hg : w.heap.size = g) : Rd (w.alloc (.cells cs t mark)) (w.alloc (.cells cs t mark)).heap.size (some ⟨g, 0, none⟩) cs.size cs.toList := by
  subst hg
  have := Rd.made w cs t mark cs.size rfl
  rwa [← World.size_alloc w (.cells cs t mark)] at this
theorem rd_up {w : World} {A : Option Addr} {n : Nat} {vs : List Value} (h : Rd w w.heap.size A n vs) (o : Obj) : Rd (w.alloc o) (w.alloc o).heap.size A n vs := (h.alloc (Nat.le_refl _) o).fit
theorem bel_up {w u : World} (h : Below w.heap.size w u) (o : Obj) : Below w.heap.size w (u.alloc o) := h.alloc h.size o
theorem blk_at (w : World) (cs : Array Value) (t : TypeId) {g : Nat} (hg : w.heap.size = g) : Blk (w.alloc (.cells cs t)) g t cs := by subst hg; exact Blk.new w t cs
theorem six {w : World} {b : Nat} {t : TypeId} {x0 x1 x2 x3 x4 x5 : Value} (h : Blk w b t #[x0, x1, x2, x3, x4, x5]) :
    w.cell? ⟨b, 0, none⟩ = some x0 ∧ w.cell? ⟨b, 1, none⟩ = some x1 ∧ w.cell? ⟨b, 2, none⟩ = some x2 ∧ w.cell? ⟨b, 3, none⟩ = some x3 ∧ w.cell? ⟨b, 4, none⟩ = some x4 ∧ w.cell? ⟨b, 5, none⟩ = some x5 :=
  ⟨h.cell 0, h.cell 1, h.cell 2, h.cell 3, h.cell 4, h.cell 5⟩
set_option maxHeartbeats 8000000 in
set_option maxRecDepth 100000 in
theorem lockForms_core (hT : TakeC) (hF : FreeC) (hO : OwnerC) (hA : AwakeC6) (a0 : Int) (w : World) :
    Calls Try.prog 3 #[.int .i64 a0] w fun e w' => e = .returned (.bool true) ∧ Below w.heap.size w w' := by
  have e1 := and_255 a0
  have h14 : (a0 % 256).tmod 14 = 0 ∨ (a0 % 256).tmod 14 = 1 ∨ (a0 % 256).tmod 14 = 2 ∨ (a0 % 256).tmod 14 = 3 ∨ (a0 % 256).tmod 14 = 4 ∨ (a0 % 256).tmod 14 = 5 ∨ (a0 % 256).tmod 14 = 6 ∨ (a0 % 256).tmod 14 = 7 ∨ (a0 % 256).tmod 14 = 8 ∨ (a0 % 256).tmod 14 = 9 ∨ (a0 % 256).tmod 14 = 10 ∨ (a0 % 256).tmod 14 = 11 ∨ (a0 % 256).tmod 14 = 12 ∨ (a0 % 256).tmod 14 = 13 := by
    rw [Int.tmod_eq_emod_of_nonneg (by omega)]; omega
  have H14 := Lib.hid h14
  clear h14
  go_enter Try.func3, Try.ntmps3
  go_upto_region 2 with fail
  go_cut [4] from 46 to 53 (fun s4 wx => ∃ (g : Nat) (t : TypeId) (A A' : Option Addr) (c c' : Nat) (s want : List Int) (take : Bool) (who e N : Int), s4 = .pointer (some ⟨g, 0, none⟩) ∧
    Blk wx g t #[.slice A s.length c, .bool take, .int .i64 who, .slice A' want.length c', .int .i64 e, .int .i64 N] ∧ s.length ≤ c ∧ Rd wx wx.heap.size A s.length (iv s) ∧ Rd wx wx.heap.size A' want.length (iv want) ∧ RowOk6 s take who want e N ∧ Below w.heap.size w wx)
  case first =>
    rcases H14.out with hj | hj | hj | hj | hj | hj | hj | hj | hj | hj | hj | hj | hj | hj
    · go_wp2_with fail
      go_meet
      exact ⟨_, _, _, _, _, _, ([] : List Int), ([5] : List Int), true, (5), (0), (0), rfl, blk_at _ _ _ (by simp), by decide, Rd.none_ _ _ _, rd_up (rd_up (rd_up (rd_up (rd_up (rd_up (rd_up (rd_up (rd_up (rd_up (rd_up (rd_up (rd_up (rd_up (rd_up (rd_up (rd_up (rd_up (rd_up (rd_up (rd_up (rd_up (rd_up (rd_up (rd_up (rd_new _ _ _ _ (by simp)) _) _) _) _) _) _) _) _) _) _) _) _) _) _) _) _) _) _) _) _) _) _) _) _) _, ⟨by decide, by decide, by decide⟩, bel_up (bel_up (bel_up (bel_up (bel_up (bel_up (bel_up (bel_up (bel_up (bel_up (bel_up (bel_up (bel_up (bel_up (bel_up (bel_up (bel_up (bel_up (bel_up (bel_up (bel_up (bel_up (bel_up (bel_up (bel_up (bel_up (Below.refl _ _) _) _) _) _) _) _) _) _) _) _) _) _) _) _) _) _) _) _) _) _) _) _) _) _) _) _⟩
    · go_wp2_with fail
      go_meet
      exact ⟨_, _, _, _, _, _, ([5] : List Int), ([5, 6] : List Int), true, (6), (0), (1), rfl, blk_at _ _ _ (by simp), by decide, rd_up (rd_up (rd_up (rd_up (rd_up (rd_up (rd_up (rd_up (rd_up (rd_up (rd_up (rd_up (rd_up (rd_up (rd_up (rd_up (rd_up (rd_up (rd_up (rd_up (rd_up (rd_up (rd_up (rd_up (rd_new _ _ _ _ (by simp)) _) _) _) _) _) _) _) _) _) _) _) _) _) _) _) _) _) _) _) _) _) _) _) _, rd_up (rd_up (rd_up (rd_up (rd_up (rd_up (rd_up (rd_up (rd_up (rd_up (rd_up (rd_up (rd_up (rd_up (rd_up (rd_up (rd_up (rd_up (rd_up (rd_up (rd_up (rd_up (rd_up (rd_new _ _ _ _ (by simp)) _) _) _) _) _) _) _) _) _) _) _) _) _) _) _) _) _) _) _) _) _) _) _, ⟨by decide, by decide, by decide⟩, bel_up (bel_up (bel_up (bel_up (bel_up (bel_up (bel_up (bel_up (bel_up (bel_up (bel_up (bel_up (bel_up (bel_up (bel_up (bel_up (bel_up (bel_up (bel_up (bel_up (bel_up (bel_up (bel_up (bel_up (bel_up (bel_up (Below.refl _ _) _) _) _) _) _) _) _) _) _) _) _) _) _) _) _) _) _) _) _) _) _) _) _) _) _) _⟩
    · go_wp2_with fail
      go_meet
      exact ⟨_, _, _, _, _, _, ([5] : List Int), ([5] : List Int), true, (5), (6), (0), rfl, blk_at _ _ _ (by simp), by decide, rd_up (rd_up (rd_up (rd_up (rd_up (rd_up (rd_up (rd_up (rd_up (rd_up (rd_up (rd_up (rd_up (rd_up (rd_up (rd_up (rd_up (rd_up (rd_up (rd_up (rd_up (rd_up (rd_new _ _ _ _ (by simp)) _) _) _) _) _) _) _) _) _) _) _) _) _) _) _) _) _) _) _) _) _) _, rd_up (rd_up (rd_up (rd_up (rd_up (rd_up (rd_up (rd_up (rd_up (rd_up (rd_up (rd_up (rd_up (rd_up (rd_up (rd_up (rd_up (rd_up (rd_up (rd_up (rd_up (rd_new _ _ _ _ (by simp)) _) _) _) _) _) _) _) _) _) _) _) _) _) _) _) _) _) _) _) _) _, ⟨by decide, by decide, by decide⟩, bel_up (bel_up (bel_up (bel_up (bel_up (bel_up (bel_up (bel_up (bel_up (bel_up (bel_up (bel_up (bel_up (bel_up (bel_up (bel_up (bel_up (bel_up (bel_up (bel_up (bel_up (bel_up (bel_up (bel_up (bel_up (bel_up (Below.refl _ _) _) _) _) _) _) _) _) _) _) _) _) _) _) _) _) _) _) _) _) _) _) _) _) _) _) _⟩
    · go_wp2_with fail
      go_meet
      exact ⟨_, _, _, _, _, _, ([5, 6] : List Int), ([5, 6] : List Int), true, (6), (6), (0), rfl, blk_at _ _ _ (by simp), by decide, rd_up (rd_up (rd_up (rd_up (rd_up (rd_up (rd_up (rd_up (rd_up (rd_up (rd_up (rd_up (rd_up (rd_up (rd_up (rd_up (rd_up (rd_up (rd_up (rd_up (rd_new _ _ _ _ (by simp)) _) _) _) _) _) _) _) _) _) _) _) _) _) _) _) _) _) _) _) _, rd_up (rd_up (rd_up (rd_up (rd_up (rd_up (rd_up (rd_up (rd_up (rd_up (rd_up (rd_up (rd_up (rd_up (rd_up (rd_up (rd_up (rd_up (rd_up (rd_new _ _ _ _ (by simp)) _) _) _) _) _) _) _) _) _) _) _) _) _) _) _) _) _) _) _, ⟨by decide, by decide, by decide⟩, bel_up (bel_up (bel_up (bel_up (bel_up (bel_up (bel_up (bel_up (bel_up (bel_up (bel_up (bel_up (bel_up (bel_up (bel_up (bel_up (bel_up (bel_up (bel_up (bel_up (bel_up (bel_up (bel_up (bel_up (bel_up (bel_up (Below.refl _ _) _) _) _) _) _) _) _) _) _) _) _) _) _) _) _) _) _) _) _) _) _) _) _) _) _) _⟩
    · go_wp2_with fail
      go_meet
      exact ⟨_, _, _, _, _, _, ([1, 2, 3, 4, 5] : List Int), ([1, 2, 3, 4, 5] : List Int), true, (6), (3), (0), rfl, blk_at _ _ _ (by simp), by decide, rd_up (rd_up (rd_up (rd_up (rd_up (rd_up (rd_up (rd_up (rd_up (rd_up (rd_up (rd_up (rd_up (rd_up (rd_up (rd_up (rd_up (rd_up (rd_new _ _ _ _ (by simp)) _) _) _) _) _) _) _) _) _) _) _) _) _) _) _) _) _) _, rd_up (rd_up (rd_up (rd_up (rd_up (rd_up (rd_up (rd_up (rd_up (rd_up (rd_up (rd_up (rd_up (rd_up (rd_up (rd_up (rd_up (rd_new _ _ _ _ (by simp)) _) _) _) _) _) _) _) _) _) _) _) _) _) _) _) _) _, ⟨by decide, by decide, by decide⟩, bel_up (bel_up (bel_up (bel_up (bel_up (bel_up (bel_up (bel_up (bel_up (bel_up (bel_up (bel_up (bel_up (bel_up (bel_up (bel_up (bel_up (bel_up (bel_up (bel_up (bel_up (bel_up (bel_up (bel_up (bel_up (bel_up (Below.refl _ _) _) _) _) _) _) _) _) _) _) _) _) _) _) _) _) _) _) _) _) _) _) _) _) _) _) _⟩
    · go_wp2_with fail
      go_meet
      exact ⟨_, _, _, _, _, _, ([1, 2, 3, 4, 5] : List Int), ([1, 2, 3, 4, 5] : List Int), true, (5), (6), (0), rfl, blk_at _ _ _ (by simp), by decide, rd_up (rd_up (rd_up (rd_up (rd_up (rd_up (rd_up (rd_up (rd_up (rd_up (rd_up (rd_up (rd_up (rd_up (rd_up (rd_up (rd_new _ _ _ _ (by simp)) _) _) _) _) _) _) _) _) _) _) _) _) _) _) _) _, rd_up (rd_up (rd_up (rd_up (rd_up (rd_up (rd_up (rd_up (rd_up (rd_up (rd_up (rd_up (rd_up (rd_up (rd_up (rd_new _ _ _ _ (by simp)) _) _) _) _) _) _) _) _) _) _) _) _) _) _) _, ⟨by decide, by decide, by decide⟩, bel_up (bel_up (bel_up (bel_up (bel_up (bel_up (bel_up (bel_up (bel_up (bel_up (bel_up (bel_up (bel_up (bel_up (bel_up (bel_up (bel_up (bel_up (bel_up (bel_up (bel_up (bel_up (bel_up (bel_up (bel_up (bel_up (Below.refl _ _) _) _) _) _) _) _) _) _) _) _) _) _) _) _) _) _) _) _) _) _) _) _) _) _) _) _⟩
    · go_wp2_with fail
      go_meet
      exact ⟨_, _, _, _, _, _, ([1, 2, 3, 4] : List Int), ([1, 2, 3, 4, 5] : List Int), true, (5), (0), (4), rfl, blk_at _ _ _ (by simp), by decide, rd_up (rd_up (rd_up (rd_up (rd_up (rd_up (rd_up (rd_up (rd_up (rd_up (rd_up (rd_up (rd_up (rd_up (rd_new _ _ _ _ (by simp)) _) _) _) _) _) _) _) _) _) _) _) _) _) _, rd_up (rd_up (rd_up (rd_up (rd_up (rd_up (rd_up (rd_up (rd_up (rd_up (rd_up (rd_up (rd_up (rd_new _ _ _ _ (by simp)) _) _) _) _) _) _) _) _) _) _) _) _) _, ⟨by decide, by decide, by decide⟩, bel_up (bel_up (bel_up (bel_up (bel_up (bel_up (bel_up (bel_up (bel_up (bel_up (bel_up (bel_up (bel_up (bel_up (bel_up (bel_up (bel_up (bel_up (bel_up (bel_up (bel_up (bel_up (bel_up (bel_up (bel_up (bel_up (Below.refl _ _) _) _) _) _) _) _) _) _) _) _) _) _) _) _) _) _) _) _) _) _) _) _) _) _) _) _⟩
    · go_wp2_with fail
      go_meet
      exact ⟨_, _, _, _, _, _, ([] : List Int), ([] : List Int), false, (5), (5), (0), rfl, blk_at _ _ _ (by simp), by decide, Rd.none_ _ _ _, Rd.none_ _ _ _, ⟨by decide, by decide, by decide⟩, bel_up (bel_up (bel_up (bel_up (bel_up (bel_up (bel_up (bel_up (bel_up (bel_up (bel_up (bel_up (bel_up (bel_up (bel_up (bel_up (bel_up (bel_up (bel_up (bel_up (bel_up (bel_up (bel_up (bel_up (bel_up (bel_up (Below.refl _ _) _) _) _) _) _) _) _) _) _) _) _) _) _) _) _) _) _) _) _) _) _) _) _) _) _) _⟩
    · go_wp2_with fail
      go_meet
      exact ⟨_, _, _, _, _, _, ([5] : List Int), ([] : List Int), false, (5), (0), (-1), rfl, blk_at _ _ _ (by simp), by decide, rd_up (rd_up (rd_up (rd_up (rd_up (rd_up (rd_up (rd_up (rd_up (rd_up (rd_up (rd_up (rd_new _ _ _ _ (by simp)) _) _) _) _) _) _) _) _) _) _) _) _, Rd.none_ _ _ _, ⟨by decide, by decide, by decide⟩, bel_up (bel_up (bel_up (bel_up (bel_up (bel_up (bel_up (bel_up (bel_up (bel_up (bel_up (bel_up (bel_up (bel_up (bel_up (bel_up (bel_up (bel_up (bel_up (bel_up (bel_up (bel_up (bel_up (bel_up (bel_up (bel_up (Below.refl _ _) _) _) _) _) _) _) _) _) _) _) _) _) _) _) _) _) _) _) _) _) _) _) _) _) _) _⟩
    · go_wp2_with fail
      go_meet
      exact ⟨_, _, _, _, _, _, ([5, 6] : List Int), ([6] : List Int), false, (5), (0), (6), rfl, blk_at _ _ _ (by simp), by decide, rd_up (rd_up (rd_up (rd_up (rd_up (rd_up (rd_up (rd_up (rd_up (rd_up (rd_up (rd_new _ _ _ _ (by simp)) _) _) _) _) _) _) _) _) _) _) _, rd_up (rd_up (rd_up (rd_up (rd_up (rd_up (rd_up (rd_up (rd_up (rd_up (rd_new _ _ _ _ (by simp)) _) _) _) _) _) _) _) _) _) _, ⟨by decide, by decide, by decide⟩, bel_up (bel_up (bel_up (bel_up (bel_up (bel_up (bel_up (bel_up (bel_up (bel_up (bel_up (bel_up (bel_up (bel_up (bel_up (bel_up (bel_up (bel_up (bel_up (bel_up (bel_up (bel_up (bel_up (bel_up (bel_up (bel_up (Below.refl _ _) _) _) _) _) _) _) _) _) _) _) _) _) _) _) _) _) _) _) _) _) _) _) _) _) _) _⟩
    · go_wp2_with fail
      go_meet
      exact ⟨_, _, _, _, _, _, ([5, 6] : List Int), ([5] : List Int), false, (6), (0), (5), rfl, blk_at _ _ _ (by simp), by decide, rd_up (rd_up (rd_up (rd_up (rd_up (rd_up (rd_up (rd_up (rd_up (rd_new _ _ _ _ (by simp)) _) _) _) _) _) _) _) _) _, rd_up (rd_up (rd_up (rd_up (rd_up (rd_up (rd_up (rd_up (rd_new _ _ _ _ (by simp)) _) _) _) _) _) _) _) _, ⟨by decide, by decide, by decide⟩, bel_up (bel_up (bel_up (bel_up (bel_up (bel_up (bel_up (bel_up (bel_up (bel_up (bel_up (bel_up (bel_up (bel_up (bel_up (bel_up (bel_up (bel_up (bel_up (bel_up (bel_up (bel_up (bel_up (bel_up (bel_up (bel_up (Below.refl _ _) _) _) _) _) _) _) _) _) _) _) _) _) _) _) _) _) _) _) _) _) _) _) _) _) _) _⟩
    · go_wp2_with fail
      go_meet
      exact ⟨_, _, _, _, _, _, ([5, 6, 7] : List Int), ([5, 7] : List Int), false, (6), (0), (5), rfl, blk_at _ _ _ (by simp), by decide, rd_up (rd_up (rd_up (rd_up (rd_up (rd_up (rd_up (rd_new _ _ _ _ (by simp)) _) _) _) _) _) _) _, rd_up (rd_up (rd_up (rd_up (rd_up (rd_up (rd_new _ _ _ _ (by simp)) _) _) _) _) _) _, ⟨by decide, by decide, by decide⟩, bel_up (bel_up (bel_up (bel_up (bel_up (bel_up (bel_up (bel_up (bel_up (bel_up (bel_up (bel_up (bel_up (bel_up (bel_up (bel_up (bel_up (bel_up (bel_up (bel_up (bel_up (bel_up (bel_up (bel_up (bel_up (bel_up (Below.refl _ _) _) _) _) _) _) _) _) _) _) _) _) _) _) _) _) _) _) _) _) _) _) _) _) _) _) _⟩
    · go_wp2_with fail
      go_meet
      exact ⟨_, _, _, _, _, _, ([5, 6] : List Int), ([5, 6] : List Int), false, (7), (5), (0), rfl, blk_at _ _ _ (by simp), by decide, rd_up (rd_up (rd_up (rd_up (rd_up (rd_new _ _ _ _ (by simp)) _) _) _) _) _, rd_up (rd_up (rd_up (rd_up (rd_new _ _ _ _ (by simp)) _) _) _) _, ⟨by decide, by decide, by decide⟩, bel_up (bel_up (bel_up (bel_up (bel_up (bel_up (bel_up (bel_up (bel_up (bel_up (bel_up (bel_up (bel_up (bel_up (bel_up (bel_up (bel_up (bel_up (bel_up (bel_up (bel_up (bel_up (bel_up (bel_up (bel_up (bel_up (Below.refl _ _) _) _) _) _) _) _) _) _) _) _) _) _) _) _) _) _) _) _) _) _) _) _) _) _) _) _⟩
    · go_wp2_with fail
      go_meet
      exact ⟨_, _, _, _, _, _, ([0] : List Int), ([0, -1] : List Int), true, (-1), (0), (1), rfl, blk_at _ _ _ (by simp), by decide, rd_up (rd_up (rd_up (rd_new _ _ _ _ (by simp)) _) _) _, rd_up (rd_up (rd_new _ _ _ _ (by simp)) _) _, ⟨by decide, by decide, by decide⟩, bel_up (bel_up (bel_up (bel_up (bel_up (bel_up (bel_up (bel_up (bel_up (bel_up (bel_up (bel_up (bel_up (bel_up (bel_up (bel_up (bel_up (bel_up (bel_up (bel_up (bel_up (bel_up (bel_up (bel_up (bel_up (bel_up (Below.refl _ _) _) _) _) _) _) _) _) _) _) _) _) _) _) _) _) _) _) _) _) _) _) _) _) _) _) _⟩
  case rest =>
    obtain ⟨g, t, A, A', c, c', s, want, take, who, e, N, rfl, hb, hle, hr, hr', hok, hB⟩ := hcut
    rename World => u
    obtain ⟨y0, y1, y2, y3, y4, y5⟩ := six hb
    have HBK := Lib.hid hb
    have HR := Lib.hid hr
    have HR' := Lib.hid hr'
    have HOK := Lib.hid hok
    have HB := Lib.hid hB
    have h5 := hok.few.1
    have h5' := hok.few.2
    have HND := Lib.hid hok.nod
    clear hb hr hr' hB hok
    obtain ⟨F, hF0⟩ : ∃ F, s.erase who = F := ⟨_, rfl⟩
    obtain ⟨E1, hE1⟩ : ∃ E, freeE s who = E := ⟨_, rfl⟩
    obtain ⟨N1, hN1⟩ : ∃ E, freeN s who = E := ⟨_, rfl⟩
    have HC : Hid (Calls Try.prog 8 #[.slice A s.length c, .int .i64 who] u (GotIR w u F E1 N1)) := Lib.hid (by have h := hF (W := w) who (by omega) hle HND.out HR.out HB.out; rw [hF0, hE1, hN1] at h; exact h)
    have HF0 := Lib.hid hF0
    have HE1 := Lib.hid hE1
    have HN1 := Lib.hid hN1
    clear hF0 hE1 hN1
    go_wp2_with fail
    refine HC.out.mono ?_
    rintro ee w1 ⟨A1, c1, A2, c2, rfl, hq, hv, hB1, hb1⟩
    unfold resV
    have b2 : Below w1.heap.size w1 (w1.alloc (.cells #[.int .i64 E1, .slice A2 0 c2, .int .i64 N1] 28)) := (Below.refl _ _).alloc (Nat.le_refl _) _
    have HQ := Lib.hid (ownsRow_below hq b2)
    have HV := Lib.hid (ownsRow_below hv b2)
    have HK := Lib.hid (Blk.new w1 28 #[.int .i64 E1, .slice A2 0 c2, .int .i64 N1])
    have HB2 := Lib.hid (hB1.alloc hB1.size (.cells #[.int .i64 E1, .slice A2 0 c2, .int .i64 N1] 28))
    have HBB := Lib.hid (hb1.trans (b2.mono hb1.size))
    have HS1 := Lib.hid hb1.size
    clear hq hv b2 hb1 hB1 HC y0 y1 y2 y3 y4 y5
    obtain ⟨y0, y1, y2, y3, y4, y5⟩ := six (HBK.out.below HBB.out)
    cases take with
    | false =>
      have hk := HOK.out.ok
      rw [if_neg (by decide)] at hk
      have hF1 : F = want := by rw [← HF0.out]; exact hk.1
      have hE2 : E1 = e := by rw [← HE1.out]; exact hk.2.1
      have hN2 : N1 = N := by rw [← HN1.out]; exact hk.2.2
      subst hF1 hE2 hN2
      clear hk HF0 HE1 HN1 HOK
      obtain ⟨x0, x1, x2, _, _, _⟩ := three HK.out
      go_wp2_with fail
      refine (sameI_is _ (c := c1) (c' := c') (Rd.own_ HQ.out) (HR'.out.below HBB.out) (by unfold maxLen; omega)).mono ?_
      rintro e w8 ⟨rfl, hb8⟩
      obtain ⟨v0, v1, v2, v3, v4, v5⟩ := six ((HBK.out.below HBB.out).below hb8)
      obtain ⟨u0, u1, u2, _, _, _⟩ := three (HK.out.below hb8)
      clear x0 x1 x2 y0 y1 y2 y3 y4 y5
      go_wp2_with (go_at_call 11; refine (hA _).mono ?_; rintro e w9 ⟨rfl, hb⟩)
      go_ret
      have h1 := HB2.out.trans (hb8.mono HB2.out.size)
      exact ⟨rfl, h1.trans (hb.mono h1.size)⟩
    | true =>
      have hk := HOK.out.ok
      rw [if_pos rfl] at hk
      have HC : Hid (Calls Try.prog 9 #[.slice A s.length c, .int .i64 who] (w1.alloc (.cells #[.int .i64 E1, .slice A2 0 c2, .int .i64 N1] 28)) (GotIR w (w1.alloc (.cells #[.int .i64 E1, .slice A2 0 c2, .int .i64 N1] 28)) want e N)) := Lib.hid (by have h := hT (W := w) who (by omega) hle (HR.out.below HBB.out) HB2.out; rw [hk.1, hk.2.1, hk.2.2] at h; exact h)
      clear hk HOK
      go_wp2_with fail
      refine HC.out.mono ?_
      rintro ee w3 ⟨A3, c3, A4, c4, rfl, hq, hv, hB3, hb3⟩
      unfold resV
      have HK3 := Lib.hid (HK.out.below hb3)
      obtain ⟨x0, x1, x2, f0, f1, f2⟩ := three HK3.out
      obtain ⟨k1, k2, k3⟩ := put3 HK3.out (.int .i64 e) (.slice A4 0 c4) (.int .i64 N)
      have HQ3 := Lib.hid (k3 _ _ _ _ _ _ hq (by decide))
      have bb : Below u.heap.size u w3 := HBB.out.trans (hb3.mono HBB.out.size)
      have hs1 : u.heap.size ≤ w1.heap.size := HS1.out
      have HBB3 := Lib.hid (k2 u hs1 bb)
      have HB4 := Lib.hid (k2 w (Nat.le_trans HB.out.size hs1) hB3)
      clear k2 k3 hq hv hB3 hb3 HC HS1 bb
      go_upto_region 6 with fail
      clear x0 x1 x2 f0 f1 f2 y0 y1 y2 y3 y4 y5
      obtain ⟨x0, x1, x2, _, _, _⟩ := three k1
      obtain ⟨y0, y1, y2, y3, y4, y5⟩ := six (HBK.out.below HBB3.out)
      have K1 := Lib.hid k1
      clear k1
      go_wp2_with fail
      refine (sameI_is _ (c := c3) (c' := c') (Rd.own_ HQ3.out) (HR'.out.below HBB3.out) (by unfold maxLen; omega)).mono ?_
      rintro e w8 ⟨rfl, hb8⟩
      obtain ⟨v0, v1, v2, v3, v4, v5⟩ := six ((HBK.out.below HBB3.out).below hb8)
      obtain ⟨u0, u1, u2, _, _, _⟩ := three (K1.out.below hb8)
      clear x0 x1 x2 y0 y1 y2 y3 y4 y5
      go_wp2_with (go_at_call 11; refine (hA _).mono ?_; rintro e w9 ⟨rfl, hb⟩)
      go_ret
      have h1 := HB4.out.trans (hb8.mono HB4.out.size)
      exact ⟨rfl, h1.trans (hb.mono h1.size)⟩
end Go.Proofs.Ytkmkejmpdjefgaa
