/- MesgMsg0 -/
import Derived.Test.YtneehnoolhadbaaGP19
import Derived.Test.YtneehnoolhadbaaGP48
import Derived.Test.YtneehnoolhadbaaGP49
namespace Go.Proofs.Ytneehnoolhadbaa
open Go.RowKit
set_option linter.unusedVariables false
/-- the entry of a number -/
def entOf (n : Int) (i : Nat) : En := ⟨n / 33554432 % 8 % 6 + 1, (i : Int) / 3 + n / 268435456 % 2 + 1, cmdOf n⟩
set_option maxHeartbeats 2000000 in
set_option maxRecDepth 100000 in
theorem entN_any (n : Int) (i : Nat) (hi : i ≤ 100) (w : World) : Calls Try.prog 36 #[.int .i64 n, .int .i64 (i : Int)] w fun e w' => ∃ ca, e = .returned (entV ca (entOf n i)) ∧ (entOf n i).c.Fits ∧ RdC8 w' w.heap.size ca (entOf n i).c ∧ Below w.heap.size w w' := by
  have a7 := and_7
  have a1 := and_1
  have hb0 : Below w.heap.size w (w.alloc (.cells #[.int .i64 0, .int .i64 0, .int .i64 0, .int .i64 0, .slice none 0 0, .slice none 0 0, .slice none 0 0] 29)) := (Below.refl _ _).alloc (Nat.le_refl _) _
  have HB0 := Lib.hid hb0
  have HK := Lib.hid (Blk.new w 29 #[.int .i64 0, .int .i64 0, .int .i64 0, .int .i64 0, .slice none 0 0, .slice none 0 0, .slice none 0 0])
  clear hb0
  go_enter Try.func36, Try.ntmps36
  go_wp2_with fail
  refine (cmdN_det n _).mono ?_
  rintro e w1 ⟨ca, rfl, hf, hr, hb⟩
  obtain ⟨c, hc⟩ : ∃ c, cmdOf n = c := ⟨_, rfl⟩
  have HC := Lib.hid hc
  rw [hc] at hf hr ⊢
  clear hc
  have HK1 := Lib.hid (HK.out.below hb)
  have HB1 := Lib.hid (HB0.out.trans (hb.mono HB0.out.size))
  have HR := Lib.hid hr
  have HF := Lib.hid hf
  clear hb hr hf HK HB0
  obtain ⟨x0, x1, x2, x3, x4, x5, x6⟩ := seven HK1.out
  have f0 := HK1.out.frozen 0
  have f1 := HK1.out.frozen 1
  have f2 := HK1.out.frozen 2
  have f3 := HK1.out.frozen 3
  have f4 := HK1.out.frozen 4
  have f5 := HK1.out.frozen 5
  have f6 := HK1.out.frozen 6
  unfold cmdV cmdC
  go_wp2_with fail
  obtain ⟨p1, p2, p3⟩ := put7 HK1.out ca ⟨_, _, c⟩ HR.out.rd
  refine bodyPost_ret (results_cell_row rfl _ _ _ _ _ _ _ rfl p1 Try.underlying29 rfl (by kernel_rfl)) rfl ?_
  have hc := HC.out
  have he : (⟨n / 33554432 % 8 % 6 + 1, (i : Int) / 3 + n / 268435456 % 2 + 1, c⟩ : En) = entOf n i := by unfold entOf; rw [hc]
  have hq : c = (entOf n i).c := by unfold entOf; exact hc.symm
  have hlt : w.heap.size < (w.alloc (.cells #[.int .i64 0, .int .i64 0, .int .i64 0, .int .i64 0, .slice none 0 0, .slice none 0 0, .slice none 0 0] 29)).heap.size := by rw [World.size_alloc]; omega
  have h1 := hq ▸ HR.out
  exact ⟨ca, by rw [← he]; rfl, hq ▸ HF.out, ((((((((h1.set hlt).set hlt).set hlt).set hlt).set hlt).set hlt).set hlt).mono (Nat.le_of_lt hlt)), p3 w (Nat.le_refl _) HB1.out⟩
theorem entDZ_any (n : Int) (i : Nat) (hi : i ≤ 100) (w : World) : Calls Try.prog 36 #[.int .i64 n, .int .i64 (i : Int)] w fun e w' => ∃ ca, e = .returned (entV ca (entOf n i)) ∧ (entOf n i).c.Fits ∧ RdC w' w'.heap.size ca (entOf n i).c ∧ ca.Z ∧ Below w.heap.size w w' :=
  (entN_any n i hi w).mono fun e w' ⟨ca, h1, h2, h3, h4⟩ => ⟨ca, h1, h2, h3.rd, h3.z, h4⟩
theorem entD_any (n : Int) (i : Nat) (hi : i ≤ 100) (w : World) : Calls Try.prog 36 #[.int .i64 n, .int .i64 (i : Int)] w fun e w' => ∃ ca, e = .returned (entV ca (entOf n i)) ∧ (entOf n i).c.Fits ∧ RdC w' w'.heap.size ca (entOf n i).c ∧ Below w.heap.size w w' :=
  (entDZ_any n i hi w).mono fun e w' ⟨ca, h1, h2, h3, _, h5⟩ => ⟨ca, h1, h2, h3, h5⟩
/-- .. with nobody below nought -/
def entMax (e : En) : En := ⟨e.s, e.q, ⟨e.c.kind, if e.c.who < 0 then 0 else e.c.who, e.c.key, e.c.val, e.c.old⟩⟩
end Go.Proofs.Ytneehnoolhadbaa

