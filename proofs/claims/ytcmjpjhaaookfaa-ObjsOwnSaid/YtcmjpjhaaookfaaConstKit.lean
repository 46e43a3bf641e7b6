/- Constant rows of bytes behind others in one region. -/
import Derived.Test.YtcmjpjhaaookfaaResKit
namespace Go.Proofs.Ytcmjpjhaaookfaa
open Go.RowKit
set_option linter.unusedVariables false
theorem const1 (w : World) (C : Array Value) (n c : Nat) : (convert 22 22 (.slice (some ⟨w.heap.size, 0, none⟩) n c)).run Try.prog (w.alloc (.cells C 5)) = .ok (.slice (some ⟨w.heap.size, 0, none⟩) n c) (w.alloc (.cells C 5 (C.size, C.size + 1))) :=
  Lib.run_convert_bytes_const (P := Try.prog) w 22 5 C n c Try.underlying22 Try.underlying5
theorem const2 (w : World) (o : Obj) (C : Array Value) (n c : Nat) : (convert 22 22 (.slice (some ⟨w.heap.size + 1, 0, none⟩) n c)).run Try.prog ((w.alloc o).alloc (.cells C 5)) = .ok (.slice (some ⟨w.heap.size + 1, 0, none⟩) n c) ((w.alloc o).alloc (.cells C 5 (C.size, C.size + 1))) := by
  have := const1 (w.alloc o) C n c
  rwa [World.size_alloc] at this
theorem const3 (w : World) (o o' : Obj) (C : Array Value) (n c : Nat) : (convert 22 22 (.slice (some ⟨w.heap.size + 1 + 1, 0, none⟩) n c)).run Try.prog (((w.alloc o).alloc o').alloc (.cells C 5)) = .ok (.slice (some ⟨w.heap.size + 1 + 1, 0, none⟩) n c) (((w.alloc o).alloc o').alloc (.cells C 5 (C.size, C.size + 1))) := by
  have := const1 ((w.alloc o).alloc o') C n c
  rwa [World.size_alloc, World.size_alloc] at this
theorem Rd.made1 (w : World) (o : Obj) (cs : Array Value) (t : TypeId) (mark : Nat × Nat) (n : Nat) (hn : cs.size = n) : Rd ((w.alloc o).alloc (.cells cs t mark)) (w.heap.size + 2) (some ⟨w.heap.size + 1, 0, none⟩) n cs.toList := by
  have := Rd.made (w.alloc o) cs t mark n hn
  rwa [World.size_alloc] at this
theorem Rd.made2 (w : World) (o o' : Obj) (cs : Array Value) (t : TypeId) (mark : Nat × Nat) (n : Nat) (hn : cs.size = n) : Rd (((w.alloc o).alloc o').alloc (.cells cs t mark)) (w.heap.size + 3) (some ⟨w.heap.size + 1 + 1, 0, none⟩) n cs.toList := by
  have := Rd.made ((w.alloc o).alloc o') cs t mark n hn
  rwa [World.size_alloc, World.size_alloc] at this
end Go.Proofs.Ytcmjpjhaaookfaa
