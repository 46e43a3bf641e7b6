/- MesgMsg0 -/
import Derived.Test.YtmekamgohonffaaGreatBT00
import Derived.Test.YtmekamgohonffaaGreatBT20
import Derived.Test.YtmekamgohonffaaGreatBT37
import Derived.Test.YtmekamgohonffaaGreatBT39
namespace Go.Proofs.YtmekamgohonffaaGreat
open Go.RowKit
set_option linter.unusedVariables false
def entOf (n : Int) (i : Nat) : En := ⟨n / 33554432 % 8 % 6 + 1, (i : Int) / 3 + n / 268435456 % 2 + 1, cmdOf n⟩
set_option maxHeartbeats 2000000 in
set_option maxRecDepth 100000 in
theorem entDZ_any (n : Int) (i : Nat) (hi : i <= 100) (w : World) : Calls Tryz.prog 22 #[.int .i64 n, .int .i64 (i : Int)] w fun e w' => ∃ ca, e = .returned (entV ca (entOf n i)) /\ (entOf n i).c.Fits /\ RdC w' w'.heap.size ca (entOf n i).c /\ ca.Z /\ Below w.heap.size w w' := by
 have a7 := and_7
 have a1 := and_1
 have hb0 : Below w.heap.size w (w.alloc (.cells #[.int .i64 0, .int .i64 0, .int .i64 0, .int .i64 0, .slice none 0 0, .slice none 0 0, .slice none 0 0] 43)) := (Below.refl _ _).alloc lR _
 have HB0 := hD hb0
 have HK := hD (Blk.new w 43 #[.int .i64 0, .int .i64 0, .int .i64 0, .int .i64 0, .slice none 0 0, .slice none 0 0, .slice none 0 0])
 clear hb0
 go_enter Tryz.func22, Tryz.ntmps22
 go_wp2_with fail
 refine (cmdZ_det n _).mono ?_
 rintro e w1 ⟨ca, rfl, hf, hr, hz, hb⟩
 have HZ := hD hz
 clear hz
 obtain ⟨c, hc⟩ : ∃ c, cmdOf n = c := ⟨_, rfl⟩
 have HC := hD hc
 rw [hc] at hf hr |-
 clear hc
 have HK1 := hD (HK.out.below hb)
 have HB1 := hD (HB0.out.trans (hb.mono HB0.out.size))
 have HR := hD hr
 have HF := hD hf
 clear hb hr hf HK HB0
 obtain ⟨x0, x1, x2, x3, x4, x5, x6⟩ := seven HK1.out
 have f0 := HK1.out.frozen 0
 have f1 := HK1.out.frozen 1
 have f2 := HK1.out.frozen 2
 have f3 := HK1.out.frozen 3
 have f4 := HK1.out.frozen 4
 have f5 := HK1.out.frozen 5
 have f6 := HK1.out.frozen 6
 unfold cmdV cmdC
 go_wp2_with fail
 obtain ⟨p1, p2, p3⟩ := put7 HK1.out ca ⟨_, _, c⟩ HR.out
 refine bodyPost_ret (results_cell_row rfl _ _ _ _ _ _ _ rfl p1 Tryz.underlying43 rfl (by kernel_rfl)) rfl ?_
 have hc := HC.out
 have he : (⟨n / 33554432 % 8 % 6 + 1, (i : Int) / 3 + n / 268435456 % 2 + 1, c⟩ : En) = entOf n i := by unfold entOf; rw [hc]
 have hq : c = (entOf n i).c := by unfold entOf; exact hc.symm
 exact ⟨ca, by rw [<- he]; rfl, hq ▸ HF.out, hq ▸ p2, HZ.out, p3 w lR HB1.out⟩
def entMax (e : En) : En := ⟨e.s, e.q, ⟨e.c.kind, if e.c.who < 0 then 0 else e.c.who, e.c.key, e.c.val, e.c.old⟩⟩
theorem tabk_le : ∀ p, p < 4 -> 1 <= tabk p /\ tabk p <= 9 := by
 intro p hp
 have h : p = 0 \/ p = 1 \/ p = 2 \/ p = 3 := by omega
 rcases h with rfl | rfl | rfl | rfl <;> exact ⟨by decide, by decide⟩
theorem tab16_size : ∀ j, j < 16 -> (tab16 j).size <= 9 := by
 intro j hj
 have h : j = 0 \/ j = 1 \/ j = 2 \/ j = 3 \/ j = 4 \/ j = 5 \/ j = 6 \/ j = 7 \/ j = 8 \/ j = 9 \/ j = 10 \/ j = 11 \/ j = 12 \/ j = 13 \/ j = 14 \/ j = 15 := by omega
 rcases h with rfl | rfl | rfl | rfl | rfl | rfl | rfl | rfl | rfl | rfl | rfl | rfl | rfl | rfl | rfl | rfl <;> decide
theorem sb_lenM (s : ByteArray) : (sb s).length = s.size := by unfold sb; rw [List.length_map, Array.length_toList]; rfl
theorem entMax_ok (n : Int) (i : Nat) (hi : i <= 100) : (entMax (entOf n i)).ok = true := by
 have h1 : (keyOf (n / 2048)).length <= 9 := by unfold keyOf; rw [sb_lenM]; exact tab16_size _ (by omega)
 have h2 : (sb (tab8 (n / 32 % 8).toNat)).length <= 17 := by rw [sb_lenM]; exact tab8_size _ (by omega)
 have h3 : (sb (tab4 (n / 32768 % 4).toNat)).length <= 2 := by rw [sb_lenM]; exact tab4_size _ (by omega)
 have h4 := tabk_le (n / 131072 % 4).toNat (by omega)
 have h5 : (cmdOf n).who <= 1073741824 := by unfold cmdOf; simp only []; split <;> omega
 have h6 : 0 <= (cmdOf n).kind /\ (cmdOf n).kind <= 1073741824 := by
  unfold cmdOf; simp only []
  split
  · omega
  · split <;> omega
 have k1 : (cmdOf n).key.length <= 32 := by unfold cmdOf; simp only []; omega
 have k2 : (cmdOf n).val.length <= 32 := by unfold cmdOf; simp only []; omega
 have k3 : (cmdOf n).old.length <= 32 := by unfold cmdOf; simp only []; omega
 unfold En.ok entMax entOf
 simp only [Bool.and_eq_true, wi_iff, decide_eq_true_eq]
 refine ⟨by omega, by omega, h6, ?_, k1, k2, k3⟩
 split <;> omega
end Go.Proofs.YtmekamgohonffaaGreat
