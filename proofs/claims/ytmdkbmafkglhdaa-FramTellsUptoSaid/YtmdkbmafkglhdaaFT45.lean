/- FramKit CmdRow -/
import Derived.Test.YtmdkbmafkglhdaaFT07
import Derived.Test.YtmdkbmafkglhdaaFT23
import Derived.Test.YtmdkbmafkglhdaaFT40
import Derived.Test.YtmdkbmafkglhdaaFT41
import Derived.Test.YtmdkbmafkglhdaaFT43
import Derived.Test.YtmdkbmafkglhdaaFT44
import Derived.OwnWalk
import Derived.WalkLawsBesides
import Derived.WalkSpells
import Derived.Deep.Slices
namespace Go.Proofs.Ytmdkbmafkglhdaa
open Go.RowKit
set_option linter.unusedVariables false
theorem Fr.enc_len {m : Mg} (h : m.ok = true) : m.enc.length ≤ 290 := by
  unfold Mg.enc
  rw [if_pos h]
  unfold Mg.ok at h
  rw [Bool.and_eq_true] at h
  have ht := h.2
  unfold Mg.tailOk at ht
  unfold Mg.head Mg.tail
  have e1 := eI_len m.kind
  have e2 := eI_len m.frm
  have e3 := eI_len m.dst
  have e4 := eI_len m.view
  have e5 := eI_len m.inst
  have e6 := eI_len m.len
  have e7 := eI_len m.has01
  have e8 := eI_len m.mem
  have e9 := eI_len m.src
  have e10 := eI_len m.pos
  have e11 := eI_len m.tot
  have e12 := eI_len m.hop
  have e13 := eI_len m.seq
  have e14 := eI_len m.idx
  have e15 := encB_length m.data
  have e16 := encN_length m.hav.length
  have e17 := encN_length m.nee.length
  simp only [List.length_append]
  split
  · simp only [List.length_append]; omega
  rename_i c2; rw [if_neg c2] at ht
  split
  · simp only [List.length_append]; omega
  rename_i c3; rw [if_neg c3] at ht
  split
  · omega
  rename_i c4; rw [if_neg c4] at ht
  split
  · rename_i c5; rw [if_pos c5] at ht
    simp only [Bool.and_eq_true, decide_eq_true_eq] at ht
    simp only [List.length_append]; omega
  rename_i c5; rw [if_neg c5] at ht
  split
  · rename_i c7; rw [if_pos c7] at ht
    simp only [Bool.and_eq_true] at ht
    have q1 := encs_wis ht.2.2.1
    have q2 := encs_wis ht.2.2.2
    simp only [List.length_append]; omega
  rename_i c7; rw [if_neg c7] at ht
  split
  · rename_i c8; rw [if_pos c8] at ht
    simp only [Bool.and_eq_true] at ht
    have q := En.ok_len' ht.2
    simp only [List.length_append]; omega
  · simp; omega
/-- what is known of a message of numbers, and of its frame -/
structure FrOf (n m : Int) (M : Mg) (L : List Nat) : Prop where
  ok : M.ok = true
  wide : M.Wide
  bare : M.bare = M
  wrap : Fr.wrap M = L
  len : 8 ≤ L.length ∧ L.length ≤ 294
  lt : ∀ x ∈ L, x < 256
  opn : Fr.opn L = some M
  msg : ∀ wx, Calls Try.prog 10 #[.int .i64 n, .int .i64 m] wx fun e w' => ∃ a : GA, e = .returned (.agg #[.int .i64 M.kind, .int .i64 M.frm, .int .i64 M.dst, .int .i64 M.view, .int .i64 M.inst, .int .i64 M.len, .bool M.has, .int .i64 M.mem, .int .i64 M.src, .int .i64 M.pos, .int .i64 M.tot, .slice a.Ad M.data.length a.cd, .int .i64 M.hop, .int .i64 M.seq, .slice a.Ah M.hav.length a.ch, .slice a.An M.nee.length a.cn, .int .i64 M.idx, .int .i64 M.ent.s, .int .i64 M.ent.q, .int .i64 M.ent.c.kind, .int .i64 M.ent.c.who, .slice a.c.Ak M.ent.c.key.length a.c.ck, .slice a.c.Av M.ent.c.val.length a.c.cv, .slice a.c.Ao M.ent.c.old.length a.c.co]) ∧ RdG w' w'.heap.size a M ∧ Below wx.heap.size wx w'
theorem frOf (n m : Int) : ∃ M L, FrOf n m M L := by
  have hok := mgOf_ok n m
  have hl := Fr.wrapL_len (Mg.enc_some hok)
  have h1 := Fr.enc_len hok
  have h2 := Fr.enc_len4 hok
  have hw : Fr.wrap (mgOf n m) = Fr.wrapL (mgOf n m).enc := rfl
  exact ⟨_, _, hok, mgOf_wide n m, mgOf_bare n m, rfl, by rw [hw, hl]; omega, Fr.wrapL_lt (Mg.enc_lt hok (mgOf_wide n m)), by rw [Fr.opn_wrap hok, mgOf_bare], fun wx => msg_any n m wx⟩
end Go.Proofs.Ytmdkbmafkglhdaa

namespace Go.Proofs.Ytmdkbmafkglhdaa
open Go.RowKit
set_option linter.unusedVariables false
/-- bytes in each of a command's rows -/
structure Cm.Bytes (c : Cm) : Prop where
  key : ∀ x ∈ c.key, x < 256
  val : ∀ x ∈ c.val, x < 256
  old : ∀ x ∈ c.old, x < 256
open Go.ChangeShapes Go.WideShapes Go.ChangeAt in
theorem cell_row {H : Type} {enc : TypeId × Value → H} {P : Program} {w : World} {t q : TypeId} {n : Nat} {v : Value} {y : DataW H × List MemPlace} (ht : P.underlying t = some (.slice q)) (hq : P.underlying q = some (.int .u8)) (cq : P.cellsOf q = 1)
    (h : DataW.trod enc P w 0 (fun _ => true) true n t [v] = some y) : ∃ (a : Option Addr) (c : Nat) (l : List Nat), v = .slice a l.length c ∧ (∀ x ∈ l, x < 256) ∧ Rd w w.heap.size a l.length (bv l) := by
  have hrow : ∃ a len cap zs, v = .slice a len cap ∧ IsRow .u8 w a len cap zs := by
    rcases open_ints ht hq cq h with ⟨hcs, _⟩ | ⟨x, l, c, zs, hcs, _, hl, hm, hz, _, hcell, hwz⟩
    · simp at hcs
      subst hcs
      exact ⟨none, 0, 0, [], rfl, .inl ⟨rfl, rfl, rfl, rfl⟩⟩
    · simp at hcs
      subst hcs
      exact ⟨some x, l, c, zs, rfl, .inr ⟨_, rfl, hl, hm, by simpa using hz, hcell, hwz⟩⟩
  obtain ⟨a, len, cap, zs, rfl, hr⟩ := hrow
  obtain ⟨l, h1, h2, _⟩ := hr.rd
  obtain rfl := h2.length
  exact ⟨a, cap, l, rfl, h1, h2⟩
open Go.ChangeShapes Go.WideShapes Go.ChangeAt in
theorem cell_int {H : Type} {enc : TypeId × Value → H} {P : Program} {w : World} {t : TypeId} {n : Nat} {v : Value} {y : DataW H × List MemPlace} (ht : P.underlying t = some (.int .i64))
    (h : DataW.trod enc P w 0 (fun _ => true) true n t [v] = some y) : ∃ z, v = .int .i64 z := by
  obtain ⟨z, h1, _⟩ := DataW.trod_int ht h
  simp at h1
  exact ⟨z, h1⟩
theorem list5 {α : Type} {l : List α} (h : l.length = 5) : ∃ a b c d e, l = [a, b, c, d, e] := by
  match l, h with
  | [a, b, c, d, e], _ => exact ⟨a, b, c, d, e, rfl⟩
end Go.Proofs.Ytmdkbmafkglhdaa

