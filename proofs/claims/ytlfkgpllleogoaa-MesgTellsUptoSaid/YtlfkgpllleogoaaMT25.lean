/- MesgF -/
import Derived.Test.YtlfkgpllleogoaaMT23
import Derived.Test.YtlfkgpllleogoaaMT24
namespace Go.Proofs.Ytlfkgpllleogoaa
open Go.RowKit
set_option linter.unusedVariables false
theorem m_wnum (b n : Nat) (w : World) : (method (n + 1) 62 (.pointer (some ⟨b, 0, none⟩)) "hocket/mesg.num").run Try.prog w = .ok (101, .pointer (some ⟨b, 0, none⟩)) w := by kernel_rfl
theorem m_wnums (b n : Nat) (w : World) : (method (n + 1) 62 (.pointer (some ⟨b, 0, none⟩)) "hocket/mesg.nums").run Try.prog w = .ok (102, .pointer (some ⟨b, 0, none⟩)) w := by kernel_rfl
theorem m_wdata (b n : Nat) (w : World) : (method (n + 1) 62 (.pointer (some ⟨b, 0, none⟩)) "hocket/mesg.data").run Try.prog w = .ok (99, .pointer (some ⟨b, 0, none⟩)) w := by kernel_rfl
theorem m_wentry (b n : Nat) (w : World) : (method (n + 1) 62 (.pointer (some ⟨b, 0, none⟩)) "hocket/mesg.entry").run Try.prog w = .ok (100, .pointer (some ⟨b, 0, none⟩)) w := by kernel_rfl
theorem m_rnum (b n : Nat) (w : World) : (method (n + 1) 72 (.agg #[.pointer (some ⟨b, 0, none⟩)]) "hocket/mesg.num").run Try.prog w = .ok (111, .agg #[.pointer (some ⟨b, 0, none⟩)]) w := by kernel_rfl
theorem m_rnums (b n : Nat) (w : World) : (method (n + 1) 72 (.agg #[.pointer (some ⟨b, 0, none⟩)]) "hocket/mesg.nums").run Try.prog w = .ok (112, .agg #[.pointer (some ⟨b, 0, none⟩)]) w := by kernel_rfl
theorem m_rdata (b n : Nat) (w : World) : (method (n + 1) 72 (.agg #[.pointer (some ⟨b, 0, none⟩)]) "hocket/mesg.data").run Try.prog w = .ok (109, .agg #[.pointer (some ⟨b, 0, none⟩)]) w := by kernel_rfl
theorem m_rentry (b n : Nat) (w : World) : (method (n + 1) 72 (.agg #[.pointer (some ⟨b, 0, none⟩)]) "hocket/mesg.entry").run Try.prog w = .ok (110, .agg #[.pointer (some ⟨b, 0, none⟩)]) w := by kernel_rfl
set_option maxRecDepth 100000 in
theorem wflag_any {W w : World} {b : Nat} {L : List Nat} {f : Bool} (h : WrAt W w b L f) (hl : L.length ≤ 1000000) (x : Bool) :
    Calls Try.prog 67 #[.iface 62 (.pointer (some ⟨b, 0, none⟩)), .bool x] w fun e w' => e = .returned (.bool x) ∧ WrP W w b L f true (eI (if x = true then 1 else 0)) 9 w' := by
  have hm := m_wnum b
  cases x with
  | false =>
    have HC := Lib.hid (wnum_any h hl 0 1)
    clear h
    go_enter Try.func67, Try.ntmps67
    go_wp2_with (first
      | (go_at_call 101; refine HC.out.mono ?_; rintro en w1 ⟨rfl, hP⟩)
      | fail)
    go_ret
    exact ⟨rfl, hP⟩
  | true =>
    have HC := Lib.hid (wnum_any h hl 1 1)
    clear h
    go_enter Try.func67, Try.ntmps67
    go_wp2_with (first
      | (go_at_call 101; refine HC.out.mono ?_; rintro en w1 ⟨rfl, hP⟩)
      | fail)
    go_ret
    exact ⟨rfl, hP⟩
set_option maxRecDepth 100000 in
theorem rflag_any (w : World) (b : Nat) (s : Pk.St) (x : Bool) (h : RdrAt w b s) {v : Nat} {s' : Pk.St} (hv : Pk.numV s 1 = v) (hs : Pk.numS s 1 = s') :
    Calls Try.prog 67 #[.iface 72 (.agg #[.pointer (some ⟨b, 0, none⟩)]), .bool x] w fun e w' => e = .returned (.bool (decide (v = 1))) ∧ RdrAt w' b s' ∧ Only b w w' := by
  have hm := m_rnum b
  have hd : ((v : Int) == 1) = decide (v = 1) := by rw [Bool.eq_iff_iff]; simp; omega
  cases x with
  | false =>
    have HC := Lib.hid (rnum11_any w b s 0 1 h hv hs)
    clear h hv hs
    go_enter Try.func67, Try.ntmps67
    go_wp2_with (first
      | (go_at_call 111; refine HC.out.mono ?_; rintro en w1 ⟨rfl, hr1, ho1⟩)
      | fail)
    go_ret
    exact ⟨rfl, hr1, ho1⟩
  | true =>
    have HC := Lib.hid (rnum11_any w b s 1 1 h hv hs)
    clear h hv hs
    go_enter Try.func67, Try.ntmps67
    go_wp2_with (first
      | (go_at_call 111; refine HC.out.mono ?_; rintro en w1 ⟨rfl, hr1, ho1⟩)
      | fail)
    go_ret
    exact ⟨rfl, hr1, ho1⟩
end Go.Proofs.Ytlfkgpllleogoaa

