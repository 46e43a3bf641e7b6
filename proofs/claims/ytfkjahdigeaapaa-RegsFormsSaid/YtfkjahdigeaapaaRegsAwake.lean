/- 'awake': what the document fixes of a register. -/
import Derived.Test.YtfkjahdigeaapaaRegsWalks
namespace Go.Proofs.Ytfkjahdigeaapaa
open Go.RowKit
set_option linter.unusedVariables false
theorem const2 (w : World) (o : Obj) (C : Array Value) (n c : Nat) : (convert 25 25 (.slice (some ⟨w.heap.size + 1, 0, none⟩) n c)).run Try.prog ((w.alloc o).alloc (.cells C 5)) = .ok (.slice (some ⟨w.heap.size + 1, 0, none⟩) n c) ((w.alloc o).alloc (.cells C 5 (C.size, C.size + 1))) := by
  have := Lib.run_convert_bytes_const (P := Try.prog) (w.alloc o) 25 5 C n c Try.underlying25 Try.underlying5
  rwa [World.size_alloc] at this
theorem const3 (w : World) (o o' : Obj) (C : Array Value) (n c : Nat) : (convert 25 25 (.slice (some ⟨w.heap.size + 1 + 1, 0, none⟩) n c)).run Try.prog (((w.alloc o).alloc o').alloc (.cells C 5)) = .ok (.slice (some ⟨w.heap.size + 1 + 1, 0, none⟩) n c) (((w.alloc o).alloc o').alloc (.cells C 5 (C.size, C.size + 1))) := by
  have := Lib.run_convert_bytes_const (P := Try.prog) ((w.alloc o).alloc o') 25 5 C n c Try.underlying25 Try.underlying5
  rwa [World.size_alloc, World.size_alloc] at this
theorem Rd.made1 (w : World) (o : Obj) (cs : Array Value) (t : TypeId) (mark : Nat × Nat) (n : Nat) (hn : cs.size = n) : Rd ((w.alloc o).alloc (.cells cs t mark)) (w.heap.size + 2) (some ⟨w.heap.size + 1, 0, none⟩) n cs.toList := by
  have := Rd.made (w.alloc o) cs t mark n hn
  rwa [World.size_alloc] at this
theorem Rd.made2 (w : World) (o o' : Obj) (cs : Array Value) (t : TypeId) (mark : Nat × Nat) (n : Nat) (hn : cs.size = n) : Rd (((w.alloc o).alloc o').alloc (.cells cs t mark)) (w.heap.size + 3) (some ⟨w.heap.size + 1 + 1, 0, none⟩) n cs.toList := by
  have := Rd.made ((w.alloc o).alloc o') cs t mark n hn
  rwa [World.size_alloc, World.size_alloc] at this
set_option maxHeartbeats 1000000 in
set_option maxRecDepth 100000 in
theorem awake_any (w : World) : Calls Try.prog 8 #[] w fun e w' => e = .returned (.bool true) ∧ Below w.heap.size w w' := by
  have kc := fun (w : World) (C : Array Value) (n c : Nat) => Lib.run_convert_bytes_const (P := Try.prog) w 25 5 C n c Try.underlying25 Try.underlying5
  have kc2 := const2
  have kc3 := const3
  have hB0 := Below.refl w.heap.size w
  go_enter Try.func8, Try.ntmps8
  go_wp2_with fail
  refine (write_any (W := w) (A := some ⟨w.heap.size, 0, none⟩) (n := 1) (c := 1) (A' := some ⟨w.heap.size + 1, 0, none⟩) (n' := 1) (c' := 1) (s := [97]) (v := [98]) (by unfold Lim; omega) (by unfold Lim; omega) ((Rd.made w #[.int .u8 97] 5 (1, 2) 1 rfl).alloc (by simp) _) (Rd.made1 w _ #[.int .u8 98] 5 (1, 2) 1 rfl) ((hB0.alloc hB0.size _).alloc (by simp) _)).mono ?_
  rw [if_pos (by decide), if_pos (by decide)]
  rintro e w1 ⟨A1, c1, A2, c2, rfl, hown1, hown2, hB1, _⟩
  unfold resV
  have hr1 := Lib.hid (Rd.own_ hown1)
  clear hown1 hown2
  go_wp2_with fail
  refine (cas_any (W := w) (A := A1) (n := 1) (c := c1) (A2 := some ⟨w1.heap.size + 1, 0, none⟩) (n2 := 1) (c2 := 1) (A' := some ⟨w1.heap.size + 1 + 1, 0, none⟩) (n' := 1) (c' := 1) (s := [98]) (old := [97]) (v := [99]) (by unfold Lim; omega) (by unfold Lim; omega) (by decide) (by decide)
    (((hr1.out.alloc (Nat.le_refl _) _).alloc (by simp) _).alloc (by simp; omega) _) (Rd.made2 w1 _ _ #[.int .u8 99] 5 (1, 2) 1 rfl) ((Rd.made1 w1 _ #[.int .u8 97] 5 (1, 2) 1 rfl).alloc (by simp) _) (((hB1.alloc hB1.size _).alloc (by have := hB1.size; simp; omega) _).alloc (by have := hB1.size; simp; omega) _)).mono ?_
  rw [show casS [98] [97] [99] = [98] by decide, show casE [98] [97] [99] = 2 by decide, show casV [98] [97] [99] = [98] by decide]
  rintro e w2 ⟨A3, c3, A4, c4, rfl, hown3, hown4, hB2, hb2⟩
  unfold resV
  have bw2 : Below (w1.heap.size + 1) (w1.alloc (.cells #[.int .i64 0, .slice A2 0 c2, .int .i64 0] 27)) w2 := (((Below.refl _ _).alloc (by simp) _).alloc (by simp) _).trans (hb2.mono (by simp))
  have hV1 := Lib.hid ((Blk.new w1 27 #[.int .i64 0, .slice A2 0 c2, .int .i64 0]).below (by rw [World.size_alloc]; exact bw2))
  have hr12 := Lib.hid ((hr1.out.alloc (Nat.le_refl _) _).below (bw2.mono (by omega)))
  have hr3 := Lib.hid (Rd.own_ hown3)
  have hr4 := Lib.hid (Rd.own_ hown4)
  clear hown3 hown4 hr1 hb2 bw2
  go_wp2_with (first
    | (at_make
       refine wpList_make_bytes (W := w2.alloc (.cells #[.int .i64 2, .slice A4 1 c4, .int .i64 0] 27)) byteT rfl _ _ rfl rfl rfl (by decide) (Below.refl _ _) ?_
       intro w3 hown5 hB3)
    | fail)
  simp only [World.size_alloc] at hown5
  have bw3 : Below w2.heap.size w2 w3 := ((Below.refl _ _).alloc (Nat.le_refl _) _).trans (hB3.mono (by simp))
  refine (write_any (W := w) (A := A1) (n := 1) (c := c1) (A' := some ⟨w2.heap.size + 1, 0, none⟩) (n' := 17) (c' := 17) (s := [98]) (v := List.replicate 17 0) (by unfold Lim; omega) (by unfold Lim; omega) (hr12.out.fit.below bw3) (Rd.own_ hown5) (hB2.trans (bw3.mono hB2.size))).mono ?_
  rw [if_neg (by decide), if_neg (by decide)]
  rintro e w4 ⟨A5, c5, A6, c6, rfl, hown6, hown7, hB4, hb4⟩
  unfold resV
  have bw4 : Below w2.heap.size w2 w4 := bw3.trans (hb4.mono bw3.size)
  have hV2 := Lib.hid (((Blk.new w2 27 #[.int .i64 2, .slice A4 1 c4, .int .i64 0]).below hB3).below hb4)
  have bw5 : Below w2.heap.size w2 (w4.alloc (.cells #[.int .i64 1, .slice A6 0 c6, .int .i64 0] 27)) := bw4.alloc bw4.size _
  obtain ⟨x0, x1, x2, _, _, _⟩ := three (hV1.out.below bw5)
  obtain ⟨y0, y1, y2, _, _, _⟩ := three (hV2.out.alloc (.cells #[.int .i64 1, .slice A6 0 c6, .int .i64 0] 27))
  have k1 := str_of (n := 1) (c := c1) (hr12.out.fit.below bw5)
  have k3 := str_of (n := 1) (c := c3) (hr3.out.below bw5)
  have k4 := str_of (n := 1) (c := c4) (hr4.out.below bw5)
  have kf := val_field
  have q1 : (strB [98] == ⟨#[98]⟩) = true := by decide
  have q2 : ((strB [98]).toList == [98]) = true := by rw [ByteArray.toList_eq]; decide
  have hr6 := Lib.hid (hr12.out.fit.below bw5)
  have hB5 := hB4.alloc hB4.size (.cells #[.int .i64 1, .slice A6 0 c6, .int .i64 0] 27)
  clear hown5 hown6 hown7
  go_wp2_with (go_at_call 12; refine (read_any (W := w) (l := [98]) (by unfold Lim; decide) hr6.out hB5).mono ?_; rintro e w5 ⟨A7, c7, rfl, hown8, hB6, _⟩; unfold resV; have k8 := str_of (n := 1) (c := c7) (Rd.own_ hown8))
  go_ret
  exact ⟨rfl, hB6⟩
end Go.Proofs.Ytfkjahdigeaapaa
