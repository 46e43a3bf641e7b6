/- MesgMsgM MesgBackMath MesgEnc RegionInvF RegionInvG -/
import Derived.Test.YtmdkbmafkglhdaaK07
import Derived.Test.YtmdkbmafkglhdaaK20
import Derived.Test.YtmdkbmafkglhdaaK32
import Derived.Test.YtmdkbmafkglhdaaK42
import Derived.Test.YtmdkbmafkglhdaaK46
import Derived.Test.YtmdkbmafkglhdaaK47
namespace Go.Proofs.Ytmdkbmafkglhdaa
open Go.RowKit
set_option linter.unusedVariables false
theorem eI_len (z : Int) : (eI z).length ≤ 9 := (Pk.enc_length _).2
theorem En.ok_len' {e : En} (h : e.ok = true) : e.enc.length ≤ 200 := En.ok_len h
theorem En.enc_lt' {e : En} (h : e.c.Wide) : ∀ x ∈ e.enc, x < 256 := En.enc_lt h
theorem datF_lt (m : Int) (i : Nat) : datF m i < 256 := by unfold datF; omega
theorem sbM_lt (s : ByteArray) : ∀ x ∈ sb s, x < 256 := sb_lt s
theorem mgOf_wide (n m : Int) : (mgOf n m).Wide := by
  have hz : (hdOf n).Wide := ⟨⟨by simp [hdOf, Mg.zero], by simp [hdOf, Mg.zero]⟩, by simp [hdOf, Mg.zero], by simp [hdOf, Mg.zero], Cm.Fits.zero.wide⟩
  unfold mgOf
  split
  · exact ⟨hz.d, hz.h, hz.n, hz.c⟩
  split
  · exact ⟨hz.d, hz.h, hz.n, hz.c⟩
  split
  · exact ⟨hz.d, hz.h, hz.n, hz.c⟩
  split
  · refine ⟨⟨by simp; omega, fun x hx => ?_⟩, hz.h, hz.n, hz.c⟩
    obtain ⟨i, _, rfl⟩ := List.mem_map.1 hx
    exact datF_lt m i
  split
  · exact ⟨hz.d, by simp; omega, by simp; omega, hz.c⟩
  split
  · refine ⟨hz.d, hz.h, hz.n, ?_⟩
    have h := entMax_ok n (m / 1024 % 64).toNat (by omega)
    unfold En.ok at h
    simp only [Bool.and_eq_true, decide_eq_true_eq] at h
    obtain ⟨_, _, _, _, h5, h6, h7⟩ := h
    exact ⟨⟨Nat.le_trans h5 (by omega), sbM_lt _⟩, ⟨Nat.le_trans h6 (by omega), sbM_lt _⟩, ⟨Nat.le_trans h7 (by omega), sbM_lt _⟩⟩
  · exact hz
theorem encs_wis {k : Nat} {l : List Int} (h : wis k l = true) : (Pk.encs l).length ≤ 9 * k := by
  unfold wis at h
  rw [Bool.and_eq_true, decide_eq_true_eq] at h
  have := Pk.encs_length l
  omega
theorem Mg.enc_len {m : Mg} (h : m.ok = true) : m.enc.length ≤ 1000 := by
  unfold Mg.enc
  rw [if_pos h]
  unfold Mg.ok at h
  rw [Bool.and_eq_true] at h
  have ht := h.2
  unfold Mg.tailOk at ht
  unfold Mg.head Mg.tail
  have e1 := eI_len m.kind
  have e2 := eI_len m.frm
  have e3 := eI_len m.dst
  have e4 := eI_len m.view
  have e5 := eI_len m.inst
  have e6 := eI_len m.len
  have e7 := eI_len m.has01
  have e8 := eI_len m.mem
  have e9 := eI_len m.src
  have e10 := eI_len m.pos
  have e11 := eI_len m.tot
  have e12 := eI_len m.hop
  have e13 := eI_len m.seq
  have e14 := eI_len m.idx
  have e15 := encB_length m.data
  have e16 := encN_length m.hav.length
  have e17 := encN_length m.nee.length
  simp only [List.length_append]
  split
  · simp only [List.length_append]; omega
  rename_i c2; rw [if_neg c2] at ht
  split
  · simp only [List.length_append]; omega
  rename_i c3; rw [if_neg c3] at ht
  split
  · omega
  rename_i c4; rw [if_neg c4] at ht
  split
  · rename_i c5; rw [if_pos c5] at ht
    simp only [Bool.and_eq_true, decide_eq_true_eq] at ht
    simp only [List.length_append]; omega
  rename_i c5; rw [if_neg c5] at ht
  split
  · rename_i c7; rw [if_pos c7] at ht
    simp only [Bool.and_eq_true] at ht
    have q1 := encs_wis ht.2.2.1
    have q2 := encs_wis ht.2.2.2
    simp only [List.length_append]; omega
  rename_i c7; rw [if_neg c7] at ht
  split
  · rename_i c8; rw [if_pos c8] at ht
    simp only [Bool.and_eq_true] at ht
    have q := En.ok_len' ht.2
    simp only [List.length_append]; omega
  · simp; omega
theorem Mg.enc_lt {m : Mg} (h : m.ok = true) (hw : m.Wide) : ∀ x ∈ m.enc, x < 256 := by
  have hI : ∀ z, ∀ x ∈ eI z, x < 256 := fun z => Pk.enc_lt (Pk.held_le _)
  have hd : ∀ x ∈ Pk.encB m.data, x < 256 := Pk.encB_lt hw.d.2 (by have := hw.d.1; unfold Pk.top; omega)
  have he : ∀ x ∈ m.ent.enc, x < 256 := En.enc_lt' hw.c
  intro x hx
  unfold Mg.enc at hx
  rw [if_pos h] at hx
  unfold Mg.head Mg.tail at hx
  rcases List.mem_append.1 hx with hx | hx
  · simp only [List.mem_append] at hx
    rcases hx with hx | hx | hx | hx <;> exact hI _ x hx
  · split at hx
    · simp only [List.mem_append] at hx
      rcases hx with hx | hx | hx <;> exact hI _ x hx
    split at hx
    · simp only [List.mem_append] at hx
      rcases hx with hx | hx | hx <;> exact hI _ x hx
    split at hx
    · exact hI _ x hx
    split at hx
    · simp only [List.mem_append] at hx
      rcases hx with hx | hx | hx
      · exact hI _ x hx
      · exact hI _ x hx
      · exact hd x hx
    split at hx
    · simp only [List.mem_append] at hx
      rcases hx with hx | hx | hx | hx | hx | hx
      · exact hI _ x hx
      · exact hI _ x hx
      · exact encN_lt _ x hx
      · exact Pk.encs_lt _ x hx
      · exact encN_lt _ x hx
      · exact Pk.encs_lt _ x hx
    split at hx
    · simp only [List.mem_append] at hx
      rcases hx with hx | hx
      · exact hI _ x hx
      · exact he x hx
    · cases hx
end Go.Proofs.Ytmdkbmafkglhdaa

namespace Go.Proofs.Ytmdkbmafkglhdaa
open Go.RowKit
set_option linter.unusedVariables false
theorem encB_mem {l : List Nat} {x : Nat} (h : x ∈ l) : x ∈ Pk.encB l := by unfold Pk.encB; exact List.mem_append_right _ h
theorem En.mem_key {e : En} {x : Nat} (h : x ∈ e.c.key) : x ∈ e.enc := by
  have := encB_mem h
  unfold En.enc; simp only [List.mem_append]; exact .inr (.inr (.inr (.inr (.inl this))))
theorem En.mem_val {e : En} {x : Nat} (h : x ∈ e.c.val) : x ∈ e.enc := by
  have := encB_mem h
  unfold En.enc; simp only [List.mem_append]; exact .inr (.inr (.inr (.inr (.inr (.inl this)))))
theorem En.mem_old {e : En} {x : Nat} (h : x ∈ e.c.old) : x ∈ e.enc := by
  have := encB_mem h
  unfold En.enc; simp only [List.mem_append]; exact .inr (.inr (.inr (.inr (.inr (.inr this)))))
theorem En.ok_wide {e : En} (h : e.ok = true) (hb : ∀ x ∈ e.enc, x < 256) : e.c.Wide := by
  unfold En.ok at h
  simp only [Bool.and_eq_true, decide_eq_true_eq] at h
  obtain ⟨_, _, _, _, h5, h6, h7⟩ := h
  exact ⟨⟨by omega, fun x hx => hb x (En.mem_key hx)⟩, ⟨by omega, fun x hx => hb x (En.mem_val hx)⟩, ⟨by omega, fun x hx => hb x (En.mem_old hx)⟩⟩
/-- a message that may be, of bytes -/
theorem Mg.ok_bare_wide {m : Mg} (h : m.ok = true) (hb : ∀ x ∈ m.enc, x < 256) : m.bare.Wide := by
  have hz := Mg.Wide.zero
  have ht : ∀ x ∈ m.tail, x < 256 := fun x hx => hb x (by unfold Mg.enc; rw [if_pos h]; exact List.mem_append_right _ hx)
  have ho : m.tailOk = true := by unfold Mg.ok at h; rw [Bool.and_eq_true] at h; exact h.2
  unfold Mg.tail at ht
  unfold Mg.tailOk at ho
  unfold Mg.bare
  split
  · exact ⟨hz.d, hz.h, hz.n, hz.c⟩
  rename_i k2
  rw [if_neg k2] at ht ho
  split
  · exact ⟨hz.d, hz.h, hz.n, hz.c⟩
  rename_i k3
  rw [if_neg k3] at ht ho
  split
  · exact ⟨hz.d, hz.h, hz.n, hz.c⟩
  rename_i k4
  rw [if_neg k4] at ht ho
  split
  · rename_i k5
    rw [if_pos k5] at ht ho
    simp only [Bool.and_eq_true, decide_eq_true_eq] at ho
    exact ⟨⟨by have := ho.2.2; show m.data.length ≤ 2000000; omega, fun x hx => ht x (by simp only [List.mem_append]; exact .inr (.inr (encB_mem hx)))⟩, hz.h, hz.n, hz.c⟩
  rename_i k5
  rw [if_neg k5] at ht ho
  split
  · rename_i k7
    rw [if_pos k7] at ho
    unfold wis at ho
    simp only [Bool.and_eq_true, decide_eq_true_eq] at ho
    exact ⟨hz.d, by have := ho.2.2.1.1; show m.hav.length ≤ 2000000; omega, by have := ho.2.2.2.1; show m.nee.length ≤ 2000000; omega, hz.c⟩
  rename_i k7
  rw [if_neg k7] at ht ho
  split
  · rename_i k8
    rw [if_pos k8] at ht ho
    simp only [Bool.and_eq_true] at ho
    exact ⟨hz.d, hz.h, hz.n, En.ok_wide ho.2 fun x hx => ht x (List.mem_append_right _ hx)⟩
  · exact ⟨hz.d, hz.h, hz.n, hz.c⟩
/-- what is read of bytes -/
theorem Mg.dec_wide {l : List Nat} (hb : ∀ x ∈ l, x < 256) {m : Mg} (h : Mg.dec l = some m) : m.Wide := by
  obtain ⟨h1, h2, h3⟩ := Mg.dec_canon hb h
  rw [← h3]
  exact Mg.ok_bare_wide h1 (by rw [h2]; exact hb)
/-- a message that was read once is read so again -/
theorem Mg.bare_facts {m : Mg} (h : m.ok = true) (hw : m.Wide) : m.bare.ok = true ∧ m.bare.enc = m.enc ∧ m.bare.bare = m.bare ∧ m.bare.Wide ∧ Mg.dec m.enc = some m.bare := by
  have hd := Mg.dec_enc h
  have hb := Mg.enc_lt h hw
  obtain ⟨h1, h2, h3⟩ := Mg.dec_canon hb hd
  exact ⟨h1, h2, h3, Mg.dec_wide hb hd, hd⟩
theorem Mg.bare_head (m : Mg) : m.bare.kind = m.kind ∧ m.bare.frm = m.frm ∧ m.bare.dst = m.dst ∧ m.bare.view = m.view := by
  unfold Mg.bare
  split
  · exact ⟨rfl, rfl, rfl, rfl⟩
  split
  · exact ⟨rfl, rfl, rfl, rfl⟩
  split
  · exact ⟨rfl, rfl, rfl, rfl⟩
  split
  · exact ⟨rfl, rfl, rfl, rfl⟩
  split
  · exact ⟨rfl, rfl, rfl, rfl⟩
  split
  · exact ⟨rfl, rfl, rfl, rfl⟩
  · exact ⟨rfl, rfl, rfl, rfl⟩
/-- a message that may not be told has no bytes; one that may has some -/
theorem Mg.enc_none {m : Mg} (h : m.ok = false) : m.enc = [] := by unfold Mg.enc; rw [h]; simp
theorem Mg.enc_some {m : Mg} (h : m.ok = true) : m.enc ≠ [] := by
  intro h0
  have h1 := Mg.dec_enc h
  rw [h0] at h1
  have h2 : Mg.dec [] = none := by decide +kernel
  rw [h2] at h1; cases h1
end Go.Proofs.Ytmdkbmafkglhdaa

namespace Go.Proofs.Ytmdkbmafkglhdaa
open Go.RowKit
set_option linter.unusedVariables false
set_option maxHeartbeats 2000000 in
set_option maxRecDepth 100000 in
theorem encode_raw {w : World} {a : GA} {m : Mg} {B : Nat} (hM : m.Wide) (hr : RdG w B a m) : Calls Try.prog 12 #[msgV a m] w (GotIn w w m.enc) := by
  obtain ⟨g, hg⟩ : ∃ g, w.heap.size = g := ⟨_, rfl⟩
  obtain ⟨wx, hwx⟩ : ∃ wx, (w.alloc (.cells (msgC a m) 29)).alloc (.cells #[.slice none 0 0, .bool false] 51) = wx := ⟨_, rfl⟩
  have hbb : Below w.heap.size w wx := by rw [← hwx]; exact ((Below.refl _ _).alloc (Nat.le_refl _) _).alloc (by rw [World.size_alloc]; omega) _
  have k1 : Blk wx g 29 (msgC a m) := by rw [← hwx, ← hg]; exact (Blk.new _ _ _).alloc _
  have k2 : Blk wx (g + 1) 51 #[.slice none 0 0, .bool false] := by
    rw [← hwx, ← hg]
    have := Blk.new (w.alloc (.cells (msgC a m) 29)) 51 #[.slice none 0 0, .bool false]
    rwa [World.size_alloc] at this
  have hw : WrAt w wx (g + 1) [] false := ⟨none, 0, k2, own_nil _ _, hbb, by omega⟩
  have HC := Lib.hid (walong_any (W := w) (w := wx) (a := a) hw hM hr.fit)
  have HK1 := Lib.hid k1
  have HWX := Lib.hid hwx
  have HG := Lib.hid hg
  have hk0 := Mg.ok_kind (m := m)
  have HE : Hid (m.ok = false → m.enc = []) := Lib.hid (fun h => by unfold Mg.enc; rw [h]; simp)
  obtain ⟨ME, hME⟩ : ∃ x, m.enc = x := ⟨_, rfl⟩
  rw [hME] at HE ⊢
  clear hM hr hbb k1 k2 hw hwx hg hk0
  unfold msgV msgC at HC
  unfold msgC at HK1 HWX
  unfold msgV msgC
  go_enter Try.func12, Try.ntmps12
  go_upto_region 2 with fail
  rw [HG.out, HWX.out]
  clear HWX
  have hbk := HC
  obtain ⟨kv, hkv⟩ : ∃ x : Int, (if wi 8 m.kind = true then m.kind else 0) = x := ⟨_, rfl⟩
  unfold AlongW at HC
  rw [hkv, hME] at HC
  clear hbk
  obtain ⟨ok, hok⟩ : ∃ x, m.ok = x := ⟨_, rfl⟩
  rw [hok] at HC HE
  clear hkv hok
  have hf : ∀ (w : World) (c1 c2 c3 c4 c5 c6 c7 c8 c9 c10 c11 c12 c13 c14 c15 c16 c17 c18 c19 c20 c21 c22 c23 : Value), (Instr.field 29 (.agg #[.int .i64 kv, c1, c2, c3, c4, c5, c6, c7, c8, c9, c10, c11, c12, c13, c14, c15, c16, c17, c18, c19, c20, c21, c22, c23]) 0).run Try.prog w = .ok (.int .i64 kv) w := by intros; kernel_rfl
  by_cases h0 : kv = 0
  · have b0 : (kv == 0) = true := by simpa using h0
    have HC : Hid (Calls Try.prog 27 #[.iface 49 (.pointer (some ⟨g + 1, 0, none⟩)), .agg #[.int .i64 m.kind, .int .i64 m.frm, .int .i64 m.dst, .int .i64 m.view, .int .i64 m.inst, .int .i64 m.len, .bool m.has, .int .i64 m.mem, .int .i64 m.src, .int .i64 m.pos, .int .i64 m.tot, .slice a.Ad m.data.length a.cd, .int .i64 m.hop, .int .i64 m.seq, .slice a.Ah m.hav.length a.ch, .slice a.An m.nee.length a.cn, .int .i64 m.idx, .int .i64 m.ent.s, .int .i64 m.ent.q, .int .i64 m.ent.c.kind, .int .i64 m.ent.c.who, .slice a.c.Ak m.ent.c.key.length a.c.ck, .slice a.c.Av m.ent.c.val.length a.c.cv, .slice a.c.Ao m.ent.c.old.length a.c.co]] wx fun e w' => ∃ (c1 c2 c3 c4 c5 c6 c7 c8 c9 c10 c11 c12 c13 c14 c15 c16 c17 c18 c19 c20 c21 c22 c23 : Value), e = .returned (.agg #[.int .i64 kv, c1, c2, c3, c4, c5, c6, c7, c8, c9, c10, c11, c12, c13, c14, c15, c16, c17, c18, c19, c20, c21, c22, c23]) ∧ Below w.heap.size w w' ∧ ok = false) := Lib.hid (HC.out.mono fun e w' ⟨c1, c2, c3, c4, c5, c6, c7, c8, c9, c10, c11, c12, c13, c14, c15, c16, c17, c18, c19, c20, c21, c22, c23, L, f, q1, ⟨_, _, _, _, q3, _⟩, q4, q5⟩ => ⟨c1, c2, c3, c4, c5, c6, c7, c8, c9, c10, c11, c12, c13, c14, c15, c16, c17, c18, c19, c20, c21, c22, c23, q1, q3, by rw [q4]; simp [h0]⟩)
    clear h0
    go_wp2_with (first
      | (refine wpList_load_row rfl 29 (.tmp 1) rfl g rfl 29 #[.int .i64 m.kind, .int .i64 m.frm, .int .i64 m.dst, .int .i64 m.view, .int .i64 m.inst, .int .i64 m.len, .bool m.has, .int .i64 m.mem, .int .i64 m.src, .int .i64 m.pos, .int .i64 m.tot, .slice a.Ad m.data.length a.cd, .int .i64 m.hop, .int .i64 m.seq, .slice a.Ah m.hav.length a.ch, .slice a.An m.nee.length a.cn, .int .i64 m.idx, .int .i64 m.ent.s, .int .i64 m.ent.q, .int .i64 m.ent.c.kind, .int .i64 m.ent.c.who, .slice a.c.Ak m.ent.c.key.length a.c.ck, .slice a.c.Av m.ent.c.val.length a.c.cv, .slice a.c.Ao m.ent.c.old.length a.c.co] (0, 0) _ HK1.out Try.underlying29 rfl (by kernel_rfl) ?_)
      | (go_at_call 27; refine HC.out.mono ?_; rintro en w1 ⟨c1, c2, c3, c4, c5, c6, c7, c8, c9, c10, c11, c12, c13, c14, c15, c16, c17, c18, c19, c20, c21, c22, c23, rfl, hb1, hno⟩)
      | fail)
    go_ret
    rw [HE.out hno]
    exact ⟨none, 0, rfl, own_nil _ _, hb1, hb1⟩
  · have b0 : (kv == 0) = false := by simpa using h0
    have HC : Hid (Calls Try.prog 27 #[.iface 49 (.pointer (some ⟨g + 1, 0, none⟩)), .agg #[.int .i64 m.kind, .int .i64 m.frm, .int .i64 m.dst, .int .i64 m.view, .int .i64 m.inst, .int .i64 m.len, .bool m.has, .int .i64 m.mem, .int .i64 m.src, .int .i64 m.pos, .int .i64 m.tot, .slice a.Ad m.data.length a.cd, .int .i64 m.hop, .int .i64 m.seq, .slice a.Ah m.hav.length a.ch, .slice a.An m.nee.length a.cn, .int .i64 m.idx, .int .i64 m.ent.s, .int .i64 m.ent.q, .int .i64 m.ent.c.kind, .int .i64 m.ent.c.who, .slice a.c.Ak m.ent.c.key.length a.c.ck, .slice a.c.Av m.ent.c.val.length a.c.cv, .slice a.c.Ao m.ent.c.old.length a.c.co]] wx fun e w' => ∃ (c1 c2 c3 c4 c5 c6 c7 c8 c9 c10 c11 c12 c13 c14 c15 c16 c17 c18 c19 c20 c21 c22 c23 : Value), e = .returned (.agg #[.int .i64 kv, c1, c2, c3, c4, c5, c6, c7, c8, c9, c10, c11, c12, c13, c14, c15, c16, c17, c18, c19, c20, c21, c22, c23]) ∧ ∃ L, WrAt w w' (g + 1) L (!ok) ∧ (ok = true → L = ME)) := Lib.hid (HC.out.mono fun e w' ⟨c1, c2, c3, c4, c5, c6, c7, c8, c9, c10, c11, c12, c13, c14, c15, c16, c17, c18, c19, c20, c21, c22, c23, L, f, q1, q3, q4, q5⟩ => ⟨c1, c2, c3, c4, c5, c6, c7, c8, c9, c10, c11, c12, c13, c14, c15, c16, c17, c18, c19, c20, c21, c22, c23, q1, L, by rw [q4]; simpa [h0] using q3, q5⟩)
    clear h0
    cases ok with
    | false =>
      go_wp2_with (first
        | (refine wpList_load_row rfl 29 (.tmp 1) rfl g rfl 29 #[.int .i64 m.kind, .int .i64 m.frm, .int .i64 m.dst, .int .i64 m.view, .int .i64 m.inst, .int .i64 m.len, .bool m.has, .int .i64 m.mem, .int .i64 m.src, .int .i64 m.pos, .int .i64 m.tot, .slice a.Ad m.data.length a.cd, .int .i64 m.hop, .int .i64 m.seq, .slice a.Ah m.hav.length a.ch, .slice a.An m.nee.length a.cn, .int .i64 m.idx, .int .i64 m.ent.s, .int .i64 m.ent.q, .int .i64 m.ent.c.kind, .int .i64 m.ent.c.who, .slice a.c.Ak m.ent.c.key.length a.c.ck, .slice a.c.Av m.ent.c.val.length a.c.cv, .slice a.c.Ao m.ent.c.old.length a.c.co] (0, 0) _ HK1.out Try.underlying29 rfl (by kernel_rfl) ?_)
        | (go_at_call 27; refine HC.out.mono ?_; rintro en w1 ⟨c1, c2, c3, c4, c5, c6, c7, c8, c9, c10, c11, c12, c13, c14, c15, c16, c17, c18, c19, c20, c21, c22, c23, rfl, L, hw, hL⟩; obtain ⟨A, c, q1, q2, q3, q4⟩ := hw; have x1 : w1.cell? ⟨g + 1, 1, none⟩ = some (.bool true) := q1.cell 1; have HB1 := Lib.hid q3; clear q1 q2 q3 q4)
        | fail)
      go_ret
      rw [HE.out (by first | rfl | trivial)]
      exact ⟨none, 0, rfl, own_nil _ _, HB1.out, HB1.out⟩
    | true =>
      go_wp2_with (first
        | (refine wpList_load_row rfl 29 (.tmp 1) rfl g rfl 29 #[.int .i64 m.kind, .int .i64 m.frm, .int .i64 m.dst, .int .i64 m.view, .int .i64 m.inst, .int .i64 m.len, .bool m.has, .int .i64 m.mem, .int .i64 m.src, .int .i64 m.pos, .int .i64 m.tot, .slice a.Ad m.data.length a.cd, .int .i64 m.hop, .int .i64 m.seq, .slice a.Ah m.hav.length a.ch, .slice a.An m.nee.length a.cn, .int .i64 m.idx, .int .i64 m.ent.s, .int .i64 m.ent.q, .int .i64 m.ent.c.kind, .int .i64 m.ent.c.who, .slice a.c.Ak m.ent.c.key.length a.c.ck, .slice a.c.Av m.ent.c.val.length a.c.cv, .slice a.c.Ao m.ent.c.old.length a.c.co] (0, 0) _ HK1.out Try.underlying29 rfl (by kernel_rfl) ?_)
        | (go_at_call 27; refine HC.out.mono ?_; rintro en w1 ⟨c1, c2, c3, c4, c5, c6, c7, c8, c9, c10, c11, c12, c13, c14, c15, c16, c17, c18, c19, c20, c21, c22, c23, rfl, L, hw, hL⟩; obtain rfl := hL rfl; obtain ⟨A, c, q1, q2, q3, q4⟩ := hw; have x0 : w1.cell? ⟨g + 1, 0, none⟩ = some (.slice A L.length c) := q1.cell 0; have x1 : w1.cell? ⟨g + 1, 1, none⟩ = some (.bool false) := q1.cell 1; have HB1 := Lib.hid q3; have HO := Lib.hid q2; clear q1 q2 q3 q4 hL)
        | fail)
      go_ret
      exact ⟨A, c, rfl, HO.out, HB1.out, HB1.out⟩
theorem encode11 : EncodeC11 := fun hM hr hB => (encode_raw hM hr).mono fun e w' ⟨A, c, h1, h2, h3, h4⟩ => ⟨A, c, h1, own_of hB.size h2, hB.trans (h3.mono hB.size), h4⟩
end Go.Proofs.Ytmdkbmafkglhdaa

namespace Go.Proofs.Ytmdkbmafkglhdaa
open Go.RowKit
set_option linter.unusedVariables false
section
variable {P : Program} {md : Region.Mode} {ops : Array Oper} {Q : Exit → Act → World → Prop}
def OpOKF (P : Program) (Q : Exit → Act → World → Prop) (w0 : World) (V : Nat → Value → World → Prop) (dst : Nat → Nat) (deps : Nat → List Nat) (Fr : Act → Prop) (i : Nat) (o : Oper) : Prop :=
  ∀ (a : Act) (w : World), Fr a → Below w0.heap.size w0 w → (∀ j ∈ deps i, V j (a.eval (.tmp (dst j))) w) → ∀ K : Act → World → Prop, Shut (∀ v w', Ext w w' → Below w0.heap.size w0 w' → V i v w' → K (a.put o.dst v) w') → Oper.wp P o a w K Q
theorem region_invF {id : Nat} (frame : (Nat → Value) → Act) (dst : Nat → Nat) (deps : Nat → List Nat) (V : Nat → Value → World → Prop) (Fr : Act → Prop) {w0 w : World} {U0 : Nat → Value} (hm : P.follows .mixedOrders = true) (hb : goesBack .any ops = true)
    (hinj : ∀ i j, i < ops.size → j < ops.size → dst i = dst j → i = j) (hdst : ∀ i o, ops[i]? = some o → o.dst = some (dst i) ∧ o.guard = none) (hdeps : ∀ i, i < ops.size → ∀ j ∈ deps i, Region.waitsFor .any ops i j = true)
    (hput : ∀ i o, ops[i]? = some o → ∀ U v, (frame U).put (some (dst i)) v = frame (fun n => if n = dst i then v else U n)) (hev : ∀ i o, ops[i]? = some o → ∀ U, (frame U).eval (.tmp (dst i)) = U (dst i)) (hfr : ∀ U, Fr (frame U))
    (hst : ∀ i v w w', V i v w → Ext w w' → V i v w') (hB : Below w0.heap.size w0 w) (hok : ∀ i o, ops[i]? = some o → OpOKF P Q w0 V dst deps Fr i o)
    (hdone : ∀ U w', Below w0.heap.size w0 w' → (∀ i, i < ops.size → V i (U (dst i)) w') → Q .normal (frame U) w') : (Code.region id ops true).wp P Q (frame U0) w := by
  refine wp_region_any hm (wpAny_inv (I := fun listed a w => ∃ U, a = frame U ∧ Below w0.heap.size w0 w ∧ listed.size = ops.size ∧ ∀ i, i < ops.size → listed.getD i false = true → V i (U (dst i)) w) hb (fun listed a w h => by obtain ⟨_, _, _, h, _⟩ := h; exact h) ?_ ?_ ops.size _ _ _
    ⟨U0, rfl, hB.drew, by simp, fun i hi h => by simp [hi] at h⟩ ?_)
  · rintro listed a w i o ⟨U, rfl, hBw, hs, hV⟩ hi ho K hK
    obtain ⟨hd, hg⟩ := hdst i o ho
    have hlt := (Array.getElem?_eq_some_iff.1 ho).1
    rw [if_pos (by simp [Region.wanted, hg])]
    refine hok i o ho (frame U) w (hfr U) hBw (fun j hj => ?_) K (fun v w' he hB' hv => hK _ _ ⟨fun n => if n = dst i then v else U n, ?_, hB', by simp [hs], fun j hj hl => ?_⟩)
    · have h1 := ready_dep (hdeps i hlt j hj) hi
      have hjl : j < ops.size := by
        rcases Nat.lt_or_ge j listed.size with h' | h'
        · omega
        · simp [Array.getElem?_eq_none h'] at h1
      rw [hev j ops[j] (Array.getElem?_eq_getElem hjl)]
      exact hV j hjl h1
    · rw [hd]; exact hput i o ho U v
    · by_cases hji : j = i
      · subst hji; show V j (if dst j = dst j then v else U (dst j)) w'; rw [if_pos rfl]; exact hv
      · have hne : dst j ≠ dst i := fun e => hji (hinj j i hj hlt e)
        simp only [if_neg hne]
        rw [getD_set_ne false (Ne.symm hji)] at hl
        exact hst j _ _ _ (hV j hj hl) he
  · rintro listed a w ⟨U, rfl, hBw, hs, hV⟩ hall
    exact hdone U w hBw (fun i hi => hV i hi (hall i hi))
  · unfold unl
    exact Nat.le_trans (List.length_filter_le _ _) (by simp)
end
end Go.Proofs.Ytmdkbmafkglhdaa

namespace Go.Proofs.Ytmdkbmafkglhdaa
open Go.RowKit
set_option linter.unusedVariables false
section
variable {P : Program} {md : Region.Mode} {ops : Array Oper} {Q : Exit → Act → World → Prop}
/-- one operation: wanted ('wt') it is done, else its place holds nothing -/
def OpOKG (P : Program) (Q : Exit → Act → World → Prop) (w0 : World) (V : Nat → Value → World → Prop) (dst : Nat → Nat) (deps : Nat → List Nat) (Fr : Act → Prop) (wt : Bool) (i : Nat) (o : Oper) : Prop :=
  ∀ (a : Act) (w : World), Fr a → Below w0.heap.size w0 w → (∀ j ∈ deps i, V j (a.eval (.tmp (dst j))) w) → ∀ K : Act → World → Prop, Shut (∀ v w', Ext w w' → Below w0.heap.size w0 w' → V i v w' → K (a.put o.dst v) w') →
    if wt = true then Oper.wp P o a w K Q else K (a.put o.dst undef) w
theorem region_invG {id : Nat} (frame : (Nat → Value) → Act) (dst : Nat → Nat) (deps : Nat → List Nat) (want : Nat → Bool) (V : Nat → Value → World → Prop) (Fr : Act → Prop) {w0 w : World} {U0 : Nat → Value} (hm : P.follows .mixedOrders = true) (hb : goesBack .any ops = true)
    (hinj : ∀ i j, i < ops.size → j < ops.size → dst i = dst j → i = j) (hdst : ∀ i o, ops[i]? = some o → o.dst = some (dst i)) (hdeps : ∀ i, i < ops.size → ∀ j ∈ deps i, Region.waitsFor .any ops i j = true)
    (hwant : ∀ i o, ops[i]? = some o → ∀ U w, (∀ j ∈ deps i, V j (U (dst j)) w) → Region.wanted o (yielded ops (frame U).tmps) = want i)
    (hput : ∀ i o, ops[i]? = some o → ∀ U v, (frame U).put (some (dst i)) v = frame (fun n => if n = dst i then v else U n)) (hev : ∀ i o, ops[i]? = some o → ∀ U, (frame U).eval (.tmp (dst i)) = U (dst i)) (hfr : ∀ U, Fr (frame U))
    (hst : ∀ i v w w', V i v w → Ext w w' → V i v w') (hB : Below w0.heap.size w0 w) (hok : ∀ i o, ops[i]? = some o → OpOKG P Q w0 V dst deps Fr (want i) i o)
    (hdone : ∀ U w', Below w0.heap.size w0 w' → (∀ i, i < ops.size → V i (U (dst i)) w') → Q .normal (frame U) w') : (Code.region id ops true).wp P Q (frame U0) w := by
  refine wp_region_any hm (wpAny_inv (I := fun listed a w => ∃ U, a = frame U ∧ Below w0.heap.size w0 w ∧ listed.size = ops.size ∧ ∀ i, i < ops.size → listed.getD i false = true → V i (U (dst i)) w) hb (fun listed a w h => by obtain ⟨_, _, _, h, _⟩ := h; exact h) ?_ ?_ ops.size _ _ _
    ⟨U0, rfl, hB.drew, by simp, fun i hi h => by simp [hi] at h⟩ ?_)
  · rintro listed a w i o ⟨U, rfl, hBw, hs, hV⟩ hi ho K hK
    have hd := hdst i o ho
    have hlt := (Array.getElem?_eq_some_iff.1 ho).1
    have hdep : ∀ j ∈ deps i, V j (U (dst j)) w := fun j hj => by
      have h1 := ready_dep (hdeps i hlt j hj) hi
      have hjl : j < ops.size := by
        rcases Nat.lt_or_ge j listed.size with h' | h'
        · omega
        · simp [Array.getElem?_eq_none h'] at h1
      exact hV j hjl h1
    have hjs : ∀ j ∈ deps i, j < ops.size := fun j hj => by
      have h1 := ready_dep (hdeps i hlt j hj) hi
      rcases Nat.lt_or_ge j listed.size with h' | h'
      · omega
      · simp [Array.getElem?_eq_none h'] at h1
    rw [hwant i o ho U w hdep]
    refine hok i o ho (frame U) w (hfr U) hBw (fun j hj => ?_) K (fun v w' he hB' hv => hK _ _ ⟨fun n => if n = dst i then v else U n, ?_, hB', by simp [hs], fun j hj hl => ?_⟩)
    · have hjl := hjs j hj
      rw [hev j ops[j] (Array.getElem?_eq_getElem hjl)]
      exact hdep j hj
    · rw [hd]; exact hput i o ho U v
    · by_cases hji : j = i
      · subst hji; show V j (if dst j = dst j then v else U (dst j)) w'; rw [if_pos rfl]; exact hv
      · have hne : dst j ≠ dst i := fun e => hji (hinj j i hj hlt e)
        simp only [if_neg hne]
        rw [getD_set_ne false (Ne.symm hji)] at hl
        exact hst j _ _ _ (hV j hj hl) he
  · rintro listed a w ⟨U, rfl, hBw, hs, hV⟩ hall
    exact hdone U w hBw (fun i hi => hV i hi (hall i hi))
  · unfold unl
    exact Nat.le_trans (List.length_filter_le _ _) (by simp)
end
end Go.Proofs.Ytmdkbmafkglhdaa

