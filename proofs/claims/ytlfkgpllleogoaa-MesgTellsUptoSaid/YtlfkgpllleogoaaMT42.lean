/- FramMath MsgBulk -/
import Derived.Test.YtlfkgpllleogoaaMT01
import Derived.Test.YtlfkgpllleogoaaMT39
import Derived.Test.YtlfkgpllleogoaaMT41
import Init
import Derived.Test.YtlfkgpllleogoaaRows
namespace Go.Proofs.Ytlfkgpllleogoaa
namespace Fr
theorem enc_len4 {m : Mg} (h : m.ok = true) : 4 ≤ m.enc.length := by
  have h1 : ∀ z, 1 ≤ (eI z).length := fun z => (Pk.enc_length _).1
  unfold Mg.enc
  rw [if_pos h]
  unfold Mg.head
  have e1 := h1 m.kind
  have e2 := h1 m.frm
  have e3 := h1 m.dst
  have e4 := h1 m.view
  simp only [List.length_append]
  omega
end Fr
end Go.Proofs.Ytlfkgpllleogoaa

namespace Go.Proofs.Ytlfkgpllleogoaa
set_option linter.unusedVariables false
theorem bulk_one {H : Type} (d : DataW H) : 1 ≤ Rows.uptoBulk d := by
  cases d with
  | lit l => cases l <;> simp [Rows.uptoBulk]
  | nil => simp [Rows.uptoBulk]
  | ptr d => simp [Rows.uptoBulk]
  | slice elems spare => simp [Rows.uptoBulk]
  | agg parts => simp [Rows.uptoBulk]
  | iface t d => simp [Rows.uptoBulk]
  | map entries => simp [Rows.uptoBulk]
  | held h => simp [Rows.uptoBulk]
theorem bulk_part {H : Type} {d : DataW H} {l : List (DataW H)} (h : d ∈ l) : Rows.uptoBulk d ≤ Rows.uptoBulkAll l := by
  induction l with
  | nil => cases h
  | cons x r ih =>
    rw [Rows.uptoBulkAll]
    rcases List.mem_cons.1 h with e | e
    · rw [e]; exact Nat.le_add_right _ _
    · exact Nat.le_trans (ih e) (Nat.le_add_left _ _)
theorem bulk_agg {H : Type} {d : DataW H} {l : List (DataW H)} (h : d ∈ l) : Rows.uptoBulk d ≤ Rows.uptoBulk (.agg l) := by
  rw [Rows.uptoBulk]; exact Nat.le_trans (bulk_part h) (Nat.le_add_right _ _)
theorem bulk_len {H : Type} (l : List (DataW H)) : l.length ≤ Rows.uptoBulkAll l := by
  induction l with
  | nil => exact Nat.zero_le _
  | cons x r ih => have := bulk_one x; rw [Rows.uptoBulkAll, List.length_cons]; omega
theorem bulk_slen {H : Type} (d : DataW H) : slen d ≤ Rows.uptoBulk d := by
  cases d with
  | slice e s => have := bulk_len e; rw [Rows.uptoBulk]; simp only [slen]; omega
  | _ => exact Nat.zero_le _
/-- the rows of a message's entry are no longer than its bulk -/
theorem LongG.le {H : Type} {d : DataW H} {m : Mg} (h : LongG d m) : m.ent.c.key.length ≤ Rows.uptoBulk d ∧ m.ent.c.val.length ≤ Rows.uptoBulk d ∧ m.ent.c.old.length ≤ Rows.uptoBulk d := by
  obtain ⟨xs, p0, p1, c0, c1, dk, dv, dd, rfl, hm, h1, h2, h3⟩ := h
  have e1 := bulk_agg hm
  have e2 : Rows.uptoBulk (DataW.agg [c0, c1, dk, dv, dd]) ≤ Rows.uptoBulk (DataW.agg [p0, p1, .agg [c0, c1, dk, dv, dd]]) := bulk_agg (by simp)
  have k1 := bulk_agg (show dk ∈ [c0, c1, dk, dv, dd] by simp)
  have k2 := bulk_agg (show dv ∈ [c0, c1, dk, dv, dd] by simp)
  have k3 := bulk_agg (show dd ∈ [c0, c1, dk, dv, dd] by simp)
  have s1 := bulk_slen dk
  have s2 := bulk_slen dv
  have s3 := bulk_slen dd
  exact ⟨by omega, by omega, by omega⟩
theorem LongG.small {H : Type} {d : DataW H} {m : Mg} {l : List (DataW H)} (h : LongG d m) (hd : d ∈ l) (hk : Rows.uptoSmall H l = true) : m.ent.c.key.length ≤ 1048576 ∧ m.ent.c.val.length ≤ 1048576 ∧ m.ent.c.old.length ≤ 1048576 := by
  have hb : Rows.uptoBulkAll l ≤ 1048576 := of_decide_eq_true hk
  have h1 := bulk_part hd
  obtain ⟨k1, k2, k3⟩ := h.le
  exact ⟨by omega, by omega, by omega⟩
end Go.Proofs.Ytlfkgpllleogoaa

