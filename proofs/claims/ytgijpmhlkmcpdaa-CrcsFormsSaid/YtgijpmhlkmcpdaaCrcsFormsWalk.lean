/- CrcsForms: the walk. -/
import Derived.Test.YtgijpmhlkmcpdaaCrcAwake
import Derived.Deep.RegionHeld3
import Derived.WalkSpells
import Derived.Deep.DeepCutAuto
import Derived.Deep.RegionWith
import Derived.Handy
import Derived.WalkLawsBesides
namespace Go.Proofs.Ytgijpmhlkmcpdaa
open Go.RowKit
set_option linter.unusedVariables false

theorem i64_and_255 (n : Int) : bits .and .i64 n 255 = n % 256 := by
  show IntKind.i64.wrap ((BitVec.ofInt 64 n &&& BitVec.ofInt 64 255).toNat : Int) = _
  have e : (BitVec.ofInt 64 n &&& BitVec.ofInt 64 255).toNat = (n % 256).toNat := by
    rw [BitVec.toNat_and]
    have h1 : (BitVec.ofInt 64 255).toNat = 2 ^ 8 - 1 := by decide
    rw [h1, Nat.and_two_pow_sub_one_eq_mod, BitVec.toNat_ofInt]
    omega
  rw [e, IntKind.wrap_i64]
  omega

/-- the string s has the sum c -/
def Fits (s : ByteArray) (c : Int) : Prop := s.size ≤ maxLen ∧ ((Crc.sum (sb s) : Nat) : Int) = c
theorem sum_fits {s : ByteArray} {c : Int} (h : Fits s c) (w : World) (b B cap : Nat) (hr : Rd w B (some ⟨b, 0, none⟩) s.size (bv (sb s))) :
    Calls Try.prog 8 #[.slice (some ⟨b, 0, none⟩) s.size cap] w fun e w' => e = .returned (.int .u32 c) ∧ w = w' := by
  refine (sum_any (sb s) (sb_lt s) _ s.size cap _ h.1 _ hr).mono ?_
  rintro e w' ⟨rfl, rfl⟩
  exact ⟨by rw [h.2], rfl⟩
theorem two_new (W : World) (o : Obj) (s : ByteArray) (n : Int) (t : TypeId) :
    ((W.alloc o).alloc (.cells #[.string s, .int .u32 n] t)).cell? ⟨W.heap.size + 1, 0, none⟩ = some (.string s) ∧ ((W.alloc o).alloc (.cells #[.string s, .int .u32 n] t)).cell? ⟨W.heap.size + 1, 1, none⟩ = some (.int .u32 n) ∧
    Below W.heap.size W ((W.alloc o).alloc (.cells #[.string s, .int .u32 n] t)) := by
  have e := fun j => World.cell?_alloc_mark (W.alloc o) #[.string s, .int .u32 n] t (0, 0) j
  have hz : (W.alloc o).heap.size = W.heap.size + 1 := by simp
  rw [hz] at e
  exact ⟨e 0, e 1, ((Below.refl _ W).alloc (Nat.le_refl _) _).alloc (by omega) _⟩

set_option maxHeartbeats 2000000 in
theorem crcsForms_walk (a0 : Int) (w0 : (Lit.int .i64 a0).wf = true) (w : World) :
    Calls Try.prog 3 #[.int .i64 a0] w fun e w' => e = .returned (.bool true) ∧ Below w.heap.size w w' := by
  have e1 := i64_and_255 a0
  have h8 : (a0 % 256).tmod 8 = 0 ∨ (a0 % 256).tmod 8 = 1 ∨ (a0 % 256).tmod 8 = 2 ∨ (a0 % 256).tmod 8 = 3 ∨ (a0 % 256).tmod 8 = 4 ∨ (a0 % 256).tmod 8 = 5 ∨ (a0 % 256).tmod 8 = 6 ∨ (a0 % 256).tmod 8 = 7 := by
    rw [Int.tmod_eq_emod_of_nonneg (by omega)]; omega
  have kc := fun (w : World) (s : ByteArray) => run_bytes_of_string (P := Try.prog) w 9 26 5 s Try.underlying9 Try.underlying26 Try.underlying5
  have H8 := Lib.hid h8
  clear h8
  go_enter Try.func3, Try.ntmps3
  go_upto_region 2 with fail
  go_cut [4] (fun s4 wx => ∃ (g : Nat) (s : ByteArray) (c : Int), s4 = .pointer (some ⟨g, 0, none⟩) ∧ wx.cell? ⟨g, 0, none⟩ = some (.string s) ∧ wx.cell? ⟨g, 1, none⟩ = some (.int .u32 c) ∧ Fits s c ∧ Below w.heap.size w wx)
  case first =>
    rcases H8.out with hj | hj | hj | hj | hj | hj | hj | hj
    all_goals go_wp2_with fail
    all_goals go_meet
    all_goals exact ⟨w.heap.size + 1, _, _, rfl, (two_new _ _ _ _ _).1, (two_new _ _ _ _ _).2.1, ⟨by decide, by decide +kernel⟩, (two_new _ _ _ _ _).2.2⟩
  case rest =>
    obtain ⟨g, s, c, rfl, h0, h1, hf, hb⟩ := hcut
    have hg := World.block_lt_of_cell? wc _ h0
    have hsz := hb.size
    go_wp2_with fail
    go_region_with (first
      | (go_at_call 8; refine (sum_fits hf _ _ _ _ (Rd.drew (Rd.drew (Rd.of_string _ _ _ _ _)))).mono ?_; rintro e w1 ⟨rfl, rfl⟩)
      | (go_at_call 9; refine (awake_any _).mono ?_; rintro e w1 ⟨rfl, hb1⟩))
    all_goals go_wp2
    all_goals go_ret
    all_goals refine ⟨rfl, Below.trans ?_ (hb1.mono ?_)⟩
    all_goals first
      | (simp; omega)
      | (repeat first | exact hb | refine Below.drew ?_ | refine Below.alloc ?_ hsz _)
end Go.Proofs.Ytgijpmhlkmcpdaa
