/- MesgF -/
import Derived.Test.YtmdkbmafkglhdaaFT27
import Derived.Test.YtmdkbmafkglhdaaFT28
namespace Go.Proofs.Ytmdkbmafkglhdaa
open Go.RowKit
set_option linter.unusedVariables false
theorem m_wnum (b n : Nat) (w : World) : (method (n + 1) 49 (.pointer (some ⟨b, 0, none⟩)) "hocket/mesg.num").run Try.prog w = .ok (74, .pointer (some ⟨b, 0, none⟩)) w := by kernel_rfl
theorem m_wnums (b n : Nat) (w : World) : (method (n + 1) 49 (.pointer (some ⟨b, 0, none⟩)) "hocket/mesg.nums").run Try.prog w = .ok (75, .pointer (some ⟨b, 0, none⟩)) w := by kernel_rfl
theorem m_wdata (b n : Nat) (w : World) : (method (n + 1) 49 (.pointer (some ⟨b, 0, none⟩)) "hocket/mesg.data").run Try.prog w = .ok (72, .pointer (some ⟨b, 0, none⟩)) w := by kernel_rfl
theorem m_wentry (b n : Nat) (w : World) : (method (n + 1) 49 (.pointer (some ⟨b, 0, none⟩)) "hocket/mesg.entry").run Try.prog w = .ok (73, .pointer (some ⟨b, 0, none⟩)) w := by kernel_rfl
theorem m_rnum (b n : Nat) (w : World) : (method (n + 1) 59 (.agg #[.pointer (some ⟨b, 0, none⟩)]) "hocket/mesg.num").run Try.prog w = .ok (91, .agg #[.pointer (some ⟨b, 0, none⟩)]) w := by kernel_rfl
theorem m_rnums (b n : Nat) (w : World) : (method (n + 1) 59 (.agg #[.pointer (some ⟨b, 0, none⟩)]) "hocket/mesg.nums").run Try.prog w = .ok (92, .agg #[.pointer (some ⟨b, 0, none⟩)]) w := by kernel_rfl
theorem m_rdata (b n : Nat) (w : World) : (method (n + 1) 59 (.agg #[.pointer (some ⟨b, 0, none⟩)]) "hocket/mesg.data").run Try.prog w = .ok (89, .agg #[.pointer (some ⟨b, 0, none⟩)]) w := by kernel_rfl
theorem m_rentry (b n : Nat) (w : World) : (method (n + 1) 59 (.agg #[.pointer (some ⟨b, 0, none⟩)]) "hocket/mesg.entry").run Try.prog w = .ok (90, .agg #[.pointer (some ⟨b, 0, none⟩)]) w := by kernel_rfl
set_option maxRecDepth 100000 in
theorem wflag_any {W w : World} {b : Nat} {L : List Nat} {f : Bool} (h : WrAt W w b L f) (hl : L.length ≤ 1000000) (x : Bool) :
    Calls Try.prog 47 #[.iface 49 (.pointer (some ⟨b, 0, none⟩)), .bool x] w fun e w' => e = .returned (.bool x) ∧ WrP W w b L f true (eI (if x = true then 1 else 0)) 9 w' := by
  have hm := m_wnum b
  cases x with
  | false =>
    have HC := Lib.hid (wnum_any h hl 0 1)
    clear h
    go_enter Try.func47, Try.ntmps47
    go_wp2_with (first
      | (go_at_call 74; refine HC.out.mono ?_; rintro en w1 ⟨rfl, hP⟩)
      | fail)
    go_ret
    exact ⟨rfl, hP⟩
  | true =>
    have HC := Lib.hid (wnum_any h hl 1 1)
    clear h
    go_enter Try.func47, Try.ntmps47
    go_wp2_with (first
      | (go_at_call 74; refine HC.out.mono ?_; rintro en w1 ⟨rfl, hP⟩)
      | fail)
    go_ret
    exact ⟨rfl, hP⟩
set_option maxRecDepth 100000 in
theorem rflag_any (w : World) (b : Nat) (s : Pk.St) (x : Bool) (h : RdrAt w b s) {v : Nat} {s' : Pk.St} (hv : Pk.numV s 1 = v) (hs : Pk.numS s 1 = s') :
    Calls Try.prog 47 #[.iface 59 (.agg #[.pointer (some ⟨b, 0, none⟩)]), .bool x] w fun e w' => e = .returned (.bool (decide (v = 1))) ∧ RdrAt w' b s' ∧ Only b w w' := by
  have hm := m_rnum b
  have hd : ((v : Int) == 1) = decide (v = 1) := by rw [Bool.eq_iff_iff]; simp; omega
  cases x with
  | false =>
    have HC := Lib.hid (rnum11_any w b s 0 1 h hv hs)
    clear h hv hs
    go_enter Try.func47, Try.ntmps47
    go_wp2_with (first
      | (go_at_call 91; refine HC.out.mono ?_; rintro en w1 ⟨rfl, hr1, ho1⟩)
      | fail)
    go_ret
    exact ⟨rfl, hr1, ho1⟩
  | true =>
    have HC := Lib.hid (rnum11_any w b s 1 1 h hv hs)
    clear h hv hs
    go_enter Try.func47, Try.ntmps47
    go_wp2_with (first
      | (go_at_call 91; refine HC.out.mono ?_; rintro en w1 ⟨rfl, hr1, ho1⟩)
      | fail)
    go_ret
    exact ⟨rfl, hr1, ho1⟩
end Go.Proofs.Ytmdkbmafkglhdaa

