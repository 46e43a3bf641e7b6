/- FramKit RefFour -/
import Derived.Test.YtlfkgpllleogoaaFQ01
import Derived.Test.YtlfkgpllleogoaaFQ04
import Derived.Test.YtlfkgpllleogoaaFQ22
import Derived.Test.YtlfkgpllleogoaaFQ28
import Derived.Test.YtlfkgpllleogoaaFQ33
import Derived.Test.YtlfkgpllleogoaaFQ38
import Derived.Test.YtlfkgpllleogoaaFQ39
import Derived.OwnWalk
import Derived.WalkLawsBesides
import Derived.WalkSpells
namespace Go.Proofs.Ytlfkgpllleogoaa
open Go.RowKit
set_option linter.unusedVariables false
theorem Fr.enc_len {m : Mg} (h : m.ok = true) : m.enc.length ≤ 290 := by
  unfold Mg.enc
  rw [if_pos h]
  unfold Mg.ok at h
  rw [Bool.and_eq_true] at h
  have ht := h.2
  unfold Mg.tailOk at ht
  unfold Mg.head Mg.tail
  have e1 := eI_len m.kind
  have e2 := eI_len m.frm
  have e3 := eI_len m.dst
  have e4 := eI_len m.view
  have e5 := eI_len m.inst
  have e6 := eI_len m.len
  have e7 := eI_len m.has01
  have e8 := eI_len m.mem
  have e9 := eI_len m.src
  have e10 := eI_len m.pos
  have e11 := eI_len m.tot
  have e12 := eI_len m.hop
  have e13 := eI_len m.seq
  have e14 := eI_len m.idx
  have e15 := encB_length m.data
  have e16 := encN_length m.hav.length
  have e17 := encN_length m.nee.length
  simp only [List.length_append]
  split
  · simp only [List.length_append]; omega
  rename_i c2; rw [if_neg c2] at ht
  split
  · simp only [List.length_append]; omega
  rename_i c3; rw [if_neg c3] at ht
  split
  · omega
  rename_i c4; rw [if_neg c4] at ht
  split
  · rename_i c5; rw [if_pos c5] at ht
    simp only [Bool.and_eq_true, decide_eq_true_eq] at ht
    simp only [List.length_append]; omega
  rename_i c5; rw [if_neg c5] at ht
  split
  · rename_i c7; rw [if_pos c7] at ht
    simp only [Bool.and_eq_true] at ht
    have q1 := encs_wis ht.2.2.1
    have q2 := encs_wis ht.2.2.2
    simp only [List.length_append]; omega
  rename_i c7; rw [if_neg c7] at ht
  split
  · rename_i c8; rw [if_pos c8] at ht
    simp only [Bool.and_eq_true] at ht
    have q := En.ok_len' ht.2
    simp only [List.length_append]; omega
  · simp; omega
/-- what is known of a message of numbers, and of its frame -/
structure FrOf (n m : Int) (M : Mg) (L : List Nat) : Prop where
  ok : M.ok = true
  wide : M.Wide
  bare : M.bare = M
  wrap : Fr.wrap M = L
  len : 8 ≤ L.length ∧ L.length ≤ 294
  lt : ∀ x ∈ L, x < 256
  opn : Fr.opn L = some M
  msg : ∀ wx, Calls Try.prog 14 #[.int .i64 n, .int .i64 m] wx fun e w' => ∃ a : GA, e = .returned (.agg #[.int .i64 M.kind, .int .i64 M.frm, .int .i64 M.dst, .int .i64 M.view, .int .i64 M.inst, .int .i64 M.len, .bool M.has, .int .i64 M.mem, .int .i64 M.src, .int .i64 M.pos, .int .i64 M.tot, .slice a.Ad M.data.length a.cd, .int .i64 M.hop, .int .i64 M.seq, .slice a.Ah M.hav.length a.ch, .slice a.An M.nee.length a.cn, .int .i64 M.idx, .int .i64 M.ent.s, .int .i64 M.ent.q, .int .i64 M.ent.c.kind, .int .i64 M.ent.c.who, .slice a.c.Ak M.ent.c.key.length a.c.ck, .slice a.c.Av M.ent.c.val.length a.c.cv, .slice a.c.Ao M.ent.c.old.length a.c.co]) ∧ RdG w' w'.heap.size a M ∧ Below wx.heap.size wx w'
theorem frOf (n m : Int) : ∃ M L, FrOf n m M L := by
  have hok := mgOf_ok n m
  have hl := Fr.wrapL_len (Mg.enc_some hok)
  have h1 := Fr.enc_len hok
  have h2 := Fr.enc_len4 hok
  have hw : Fr.wrap (mgOf n m) = Fr.wrapL (mgOf n m).enc := rfl
  exact ⟨_, _, hok, mgOf_wide n m, mgOf_bare n m, rfl, by rw [hw, hl]; omega, Fr.wrapL_lt (Mg.enc_lt hok (mgOf_wide n m)), by rw [Fr.opn_wrap hok, mgOf_bare], fun wx => msg_any n m wx⟩
theorem fram_and_7 (n : Int) : bits .and .i64 n 7 = n % 8 := and_7 n
theorem fram_set_lt {l : List Nat} (hl : ∀ x ∈ l, x < 256) (q : Nat) {y : Nat} (hy : y < 256) : ∀ x ∈ l.set q y, x < 256 := by
  intro x hx
  rcases List.mem_or_eq_of_mem_set hx with h | h
  · exact hl x h
  · omega
end Go.Proofs.Ytlfkgpllleogoaa

namespace Go.Proofs.Ytlfkgpllleogoaa
open Go.RowKit
set_option linter.unusedVariables false
set_option maxHeartbeats 1000000 in
set_option maxRecDepth 100000 in
theorem refFour {W w : World} {A : Option Addr} {n c B : Nat} {l : List Nat} (hl : ∀ x ∈ l, x < 256) (hn : l.length ≤ 2000000) (h : Rd w B A n (bv l)) (hB : Below W.heap.size W w) : Calls Try.prog 54 #[.slice A n c] w (GotIn W w (Fr.four (Crc.sum l) ++ l)) := by
  have hln := h.length
  have C := Lib.hid (refsum_any l hl A n c B (by unfold maxLen; omega) w h)
  have HB := Lib.hid hB
  have HH := Lib.hid h.fit
  have HN : Hid (n ≤ 2000000) := Lib.hid (by omega)
  obtain ⟨s, hs⟩ : ∃ s, Crc.sum l = s := ⟨_, rfl⟩
  rw [hs] at C ⊢
  have HLL : Hid (4 + n = (Fr.four s ++ l).length) := Lib.hid (by rw [List.length_append, Fr.four_len, hln])
  clear hl hn h hB hs hln
  go_enter Try.func54, Try.ntmps54
  go_upto_region 2 with (first
    | (go_at_call 72; refine C.out.mono ?_; rintro e w' ⟨rfl, rfl⟩)
    | fail)
  have hown : (w.alloc (.cells #[.int .u8 ((s : Int) % 256), .int .u8 ((s : Int) / 256 % 256), .int .u8 ((s : Int) / 65536 % 256), .int .u8 ((s : Int) / 16777216 % 256)] 5)).ownsRow w.heap.size 5 1 (.slice (some ⟨w.heap.size, 0, none⟩) 4 4) 4 (bv (Fr.four s)) := World.ownsRow_lit w _ 4 (Nat.le_refl _) (by decide) rfl
  have hbw : Below w.heap.size w (w.alloc (.cells #[.int .u8 ((s : Int) % 256), .int .u8 ((s : Int) / 256 % 256), .int .u8 ((s : Int) / 65536 % 256), .int .u8 ((s : Int) / 16777216 % 256)] 5)) := (Below.refl _ _).alloc (Nat.le_refl _) _
  have HO := Lib.hid hown
  have HBW := Lib.hid hbw
  have HH := Lib.hid (HH.out.below hbw)
  clear hown hbw
  go_wp2_with (first
    | (at_builtin
       refine wpList_append_bytes (W := w) byteT (.tmp 17) (.tmp 18) rfl (by rfl) rfl HO.out rfl HH.out (by have := HN.out; omega) HBW.out ?_
       intro A3 c3 w3 ho3 hr3 hB3
       have HO3 := Lib.hid ho3
       have HB3 := Lib.hid hB3
       clear ho3 hr3 hB3)
    | fail)
  go_ret
  refine ⟨A3, c3, by rw [← HLL.out]; rfl, ?_, HB.out.trans (HB3.out.mono HB.out.size), HB3.out⟩
  rw [← HLL.out]
  exact own_of HB.out.size HO3.out
end Go.Proofs.Ytlfkgpllleogoaa

