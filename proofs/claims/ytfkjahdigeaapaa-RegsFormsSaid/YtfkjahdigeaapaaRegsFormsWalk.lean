/- RegsForms: the walk. -/
import Derived.Test.YtfkjahdigeaapaaRegsAwake
import Derived.Deep.DeepCutAuto
import Derived.Laws.DeepStrings4
namespace Go.Proofs.Ytfkjahdigeaapaa
open Go.RowKit
set_option linter.unusedVariables false
theorem strB_sb (s : ByteArray) : strB (sb s) = s := by
  have h : (strB (sb s)).data.toList = s.data.toList := by
    unfold strB sb strOfNums
    simp [Function.comp_def]
  have h2 := Array.toList_inj.1 h
  generalize strB (sb s) = a at h2 ⊢
  cases a; cases s; simp at h2; rw [h2]
theorem i64_and_255 (n : Int) : bits .and .i64 n 255 = n % 256 := by
  show IntKind.i64.wrap ((BitVec.ofInt 64 n &&& BitVec.ofInt 64 255).toNat : Int) = _
  have e : (BitVec.ofInt 64 n &&& BitVec.ofInt 64 255).toNat = (n % 256).toNat := by
    rw [BitVec.toNat_and]
    have h1 : (BitVec.ofInt 64 255).toNat = 2 ^ 8 - 1 := by decide
    rw [h1, Nat.and_two_pow_sub_one_eq_mod, BitVec.toNat_ofInt]
    omega
  rw [e, IntKind.wrap_i64]
  omega
/-- a row by hand -/
def RowOk (s old v want : ByteArray) (e : Int) (val : ByteArray) : Prop :=
  (s.size ≤ 20 ∧ old.size ≤ 20 ∧ v.size ≤ 20) ∧ sb want = casS (sb s) (sb old) (sb v) ∧ e = casE (sb s) (sb old) (sb v) ∧ sb val = casV (sb s) (sb old) (sb v)
theorem sb_length (s : ByteArray) : (sb s).length = s.size := by unfold sb; rw [List.length_map, Array.length_toList]; rfl
theorem Rd.of_string1 (w : World) (o : Obj) (s : ByteArray) (cap : Nat) (t : TypeId) (mark : Nat × Nat) : Rd ((w.alloc o).alloc (.cells (bytesRow s cap) t mark)) (w.heap.size + 2) (some ⟨w.heap.size + 1, 0, none⟩) s.size (bv (sb s)) := by
  have := Rd.of_string (w.alloc o) s cap t mark
  rwa [World.size_alloc] at this
theorem Rd.of_string2 (w : World) (o o' : Obj) (s : ByteArray) (cap : Nat) (t : TypeId) (mark : Nat × Nat) : Rd (((w.alloc o).alloc o').alloc (.cells (bytesRow s cap) t mark)) (w.heap.size + 3) (some ⟨w.heap.size + 1 + 1, 0, none⟩) s.size (bv (sb s)) := by
  have := Rd.of_string ((w.alloc o).alloc o') s cap t mark
  rwa [World.size_alloc, World.size_alloc] at this
theorem two_new (W : World) (o : Obj) (cs : Array Value) (t : TypeId) :
    Blk ((W.alloc o).alloc (.cells cs t)) (W.heap.size + 1) t cs ∧ Below W.heap.size W ((W.alloc o).alloc (.cells cs t)) := by
  have hz : (W.alloc o).heap.size = W.heap.size + 1 := by simp
  have h := Blk.new (W.alloc o) t cs
  rw [hz] at h
  exact ⟨h, ((Below.refl _ W).alloc (Nat.le_refl _) _).alloc (by omega) _⟩
set_option maxHeartbeats 4000000 in
set_option maxRecDepth 100000 in
theorem regsForms_walk (a0 : Int) (w0 : (Lit.int .i64 a0).wf = true) (w : World) :
    Calls Try.prog 3 #[.int .i64 a0] w fun e w' => e = .returned (.bool true) ∧ Below w.heap.size w w' := by
  have e1 := i64_and_255 a0
  have h10 : (a0 % 256).tmod 10 = 0 ∨ (a0 % 256).tmod 10 = 1 ∨ (a0 % 256).tmod 10 = 2 ∨ (a0 % 256).tmod 10 = 3 ∨ (a0 % 256).tmod 10 = 4 ∨ (a0 % 256).tmod 10 = 5 ∨ (a0 % 256).tmod 10 = 6 ∨ (a0 % 256).tmod 10 = 7 ∨ (a0 % 256).tmod 10 = 8 ∨ (a0 % 256).tmod 10 = 9 := by
    rw [Int.tmod_eq_emod_of_nonneg (by omega)]; omega
  have H10 := Lib.hid h10
  clear h10
  go_enter Try.func3, Try.ntmps3
  go_upto_region 3 with fail
  go_cut [6] (fun s6 wx => ∃ (g : Nat) (t : TypeId) (s old v want : ByteArray) (e : Int) (val : ByteArray), s6 = .pointer (some ⟨g, 0, none⟩) ∧ Blk wx g t #[.string s, .string old, .string v, .string want, .int .i64 e, .string val] ∧ RowOk s old v want e val ∧ Below w.heap.size w wx)
  case first =>
    rcases H10.out with hj | hj | hj | hj | hj | hj | hj | hj | hj | hj
    all_goals go_wp2_with fail
    all_goals go_meet
    all_goals exact ⟨w.heap.size + 1, _, _, _, _, _, _, _, rfl, (two_new _ _ _ _).1, ⟨by decide, by decide +kernel⟩, (two_new _ _ _ _).2⟩
  case rest =>
    obtain ⟨g, t, s, old, v, want, e, val, rfl, hb, hf, hB⟩ := hcut
    rename World => u
    have kc := fun (w : World) (s : ByteArray) => run_bytes_of_string (P := Try.prog) w 9 25 5 s Try.underlying9 Try.underlying25 Try.underlying5
    have h0 : u.cell? ⟨g, 0, none⟩ = some (.string s) := hb.cell 0
    have h1 : u.cell? ⟨g, 1, none⟩ = some (.string old) := hb.cell 1
    have h2 : u.cell? ⟨g, 2, none⟩ = some (.string v) := hb.cell 2
    have p1 := fun (o : Obj) => (hb.alloc o).cell 1
    have p2 := fun (o o' : Obj) => ((hb.alloc o).alloc o').cell 2
    have HF := Lib.hid hf
    have HBB := Lib.hid hb
    have HB := Lib.hid hB
    clear hf hb hB
    have hz1 : Lim 0 s.size := by have := HF.out.1.1; unfold Lim; omega
    have hz3 : Lim 0 v.size := by have := HF.out.1.2.2; unfold Lim; omega
    go_wp2_with fail
    refine (cas_any (W := w) (B := u.heap.size + 1) (B2 := u.heap.size + 2) (B' := u.heap.size + 3) (A := some ⟨u.heap.size, 0, none⟩) (n := s.size) (A2 := some ⟨u.heap.size + 1, 0, none⟩) (n2 := old.size) (A' := some ⟨u.heap.size + 1 + 1, 0, none⟩) (n' := v.size) (s := sb s) (old := sb old) (v := sb v) hz1 hz3 (sb_lt _) (sb_lt _) ?h1 ?h2 ?h3 ?h4).mono ?_
    case h1 => exact (((Rd.of_string _ _ _ _ _).alloc (by simp) _).alloc (by simp <;> omega) _)
    case h2 => exact Rd.of_string2 _ _ _ _ _ _ _
    case h3 => exact (Rd.of_string1 _ _ _ _ _ _).alloc (by simp) _
    case h4 => exact Below.drew (Below.drew (Below.drew (((HB.out.alloc HB.out.size _).alloc (by have := HB.out.size; simp; omega) _).alloc (by have := HB.out.size; simp; omega) _)))
    rw [← HF.out.2.1, ← HF.out.2.2.1, ← HF.out.2.2.2]
    rintro ee w1 ⟨A1, c1, A2, c2, rfl, ho1, ho2, hB1, hb1⟩
    unfold resV
    have G1 := Lib.hid (Blk.below (Blk.drew (Blk.drew (Blk.drew (((HBB.out.alloc _).alloc _).alloc _)))) hb1)
    have q0 := fun (o : Obj) => (G1.out.alloc o).cell 0
    have q2 := fun (o o' : Obj) => ((G1.out.alloc o).alloc o').cell 2
    have R1 := Lib.hid (Rd.own_ ho1)
    have R2 := Lib.hid (Rd.own_ ho2)
    have Z1 := Lib.hid hB1
    rw [sb_length, sb_length]
    clear hb1 p1 p2 h0 h1 h2 ho1 ho2 hB1
    clear HB HBB
    go_wp2_with fail
    refine (write_any (W := w) (B := w1.heap.size + 2) (B' := w1.heap.size + 3) (A := some ⟨w1.heap.size + 1, 0, none⟩) (n := s.size) (A' := some ⟨w1.heap.size + 1 + 1, 0, none⟩) (n' := v.size) (s := sb s) (v := sb v) hz1 hz3 ?h1 ?h2 ?h4).mono ?_
    case h1 => exact (Rd.of_string1 _ _ _ _ _ _).alloc (by simp) _
    case h2 => exact Rd.of_string2 _ _ _ _ _ _ _
    case h4 => exact Below.drew (Below.drew (((Z1.out.alloc Z1.out.size _).alloc (by have := Z1.out.size; simp; omega) _).alloc (by have := Z1.out.size; simp; omega) _))
    rintro ee w2 ⟨A3, c3, A4, c4, rfl, ho3, ho4, hB2, hb2⟩
    unfold resV
    have hb12 := (Below.drew (Below.drew ((((Below.refl w1.heap.size w1).alloc (Nat.le_refl _) (.cells #[.int .i64 e, .slice A2 val.size c2, .int .i64 0] 27)).alloc (by simp) _).alloc (by simp <;> omega) _))).trans (hb2.mono (by simp <;> omega))
    have hK1 := Blk.below (Blk.drew (Blk.drew (((Blk.new w1 27 #[.int .i64 e, .slice A2 val.size c2, .int .i64 0]).alloc _).alloc _))) hb2
    clear hb2 q0 q2
    by_cases hv : v.size ≤ 16
    · rw [if_pos (by rw [sb_length]; exact hv), if_pos (by rw [sb_length]; exact hv)] at *
      rw [sb_length] at *
      have G2 := ((G1.out.below hb12).alloc (.cells #[.int .i64 0, .slice A4 0 c4, .int .i64 0] 27))
      have f2 : Below w2.heap.size w2 (w2.alloc (.cells #[.int .i64 0, .slice A4 0 c4, .int .i64 0] 27)) := (Below.refl _ _).alloc (Nat.le_refl _) _
      have c0 := G2.cell 0
      have c1' := G2.cell 2
      have c2' := G2.cell 3
      have c3' := G2.cell 4
      have c4' := G2.cell 5
      obtain ⟨y0, y1, y2, _, _, _⟩ := three (hK1.alloc (.cells #[.int .i64 0, .slice A4 0 c4, .int .i64 0] 27))
      have s1 := str_of (n := want.size) (c := c1) ((R1.out.below (hb12.trans (f2.mono hb12.size))))
      have s2 := str_of (n := val.size) (c := c2) ((R2.out.below (hb12.trans (f2.mono hb12.size))))
      have s3 := str_of (n := v.size) (c := c3) ((Rd.own_ ho3).below f2)
      rw [strB_sb] at s1 s2 s3
      have qs : ∀ z : ByteArray, (z == z) = true := fun z => by rw [ba_beq]; simp
      have hv' : ¬ (16 : Int) < (v.size : Int) := by omega
      clear kc G1 R1 R2 ho3 ho4 G2 hK1 hb12 f2
      have HB2 := Lib.hid (hB2.alloc hB2.size (.cells #[.int .i64 0, .slice A4 0 c4, .int .i64 0] 27))
      clear hB2
      go_wp2_with (go_at_call 8; refine (awake_any _).mono ?_; rintro e w3 ⟨rfl, hb6⟩)
      go_ret
      exact ⟨rfl, HB2.out.trans (hb6.mono HB2.out.size)⟩
    · rw [if_neg (by rw [sb_length]; exact hv), if_neg (by rw [sb_length]; exact hv)] at *
      rw [sb_length] at *
      have G2 := ((G1.out.below hb12).alloc (.cells #[.int .i64 1, .slice A4 0 c4, .int .i64 0] 27))
      have f2 : Below w2.heap.size w2 (w2.alloc (.cells #[.int .i64 1, .slice A4 0 c4, .int .i64 0] 27)) := (Below.refl _ _).alloc (Nat.le_refl _) _
      have c0 := G2.cell 0
      have c1' := G2.cell 2
      have c2' := G2.cell 3
      have c3' := G2.cell 4
      have c4' := G2.cell 5
      obtain ⟨y0, y1, y2, _, _, _⟩ := three (hK1.alloc (.cells #[.int .i64 1, .slice A4 0 c4, .int .i64 0] 27))
      have s1 := str_of (n := want.size) (c := c1) ((R1.out.below (hb12.trans (f2.mono hb12.size))))
      have s2 := str_of (n := val.size) (c := c2) ((R2.out.below (hb12.trans (f2.mono hb12.size))))
      have s3 := str_of (n := s.size) (c := c3) ((Rd.own_ ho3).below f2)
      rw [strB_sb] at s1 s2 s3
      have qs : ∀ z : ByteArray, (z == z) = true := fun z => by rw [ba_beq]; simp
      have hv' : (16 : Int) < (v.size : Int) := by omega
      clear kc G1 R1 R2 ho3 ho4 G2 hK1 hb12 f2
      have HB2 := Lib.hid (hB2.alloc hB2.size (.cells #[.int .i64 1, .slice A4 0 c4, .int .i64 0] 27))
      clear hB2
      go_wp2_with (go_at_call 8; refine (awake_any _).mono ?_; rintro e w3 ⟨rfl, hb6⟩)
      go_ret
      exact ⟨rfl, HB2.out.trans (hb6.mono HB2.out.size)⟩
end Go.Proofs.Ytfkjahdigeaapaa
