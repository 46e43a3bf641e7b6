/- MesgMsg0 MesgMsgD MesgMsgM MesgBackMath Ref11Kit Ref11Ok -/
import Derived.Test.YtmdkbmafkglhdaaFT16
import Derived.Test.YtmdkbmafkglhdaaFT18
import Derived.Test.YtmdkbmafkglhdaaFT28
import Derived.Test.YtmdkbmafkglhdaaFT30
import Derived.Test.YtmdkbmafkglhdaaFT32
import Derived.Test.YtmdkbmafkglhdaaFT33
import Derived.Test.YtmdkbmafkglhdaaFT39
import Derived.Deep.MidRow
namespace Go.Proofs.Ytmdkbmafkglhdaa
open Go.RowKit
set_option linter.unusedVariables false
/-- the entry of a number -/
def entOf (n : Int) (i : Nat) : En := ⟨n / 33554432 % 8 % 6 + 1, (i : Int) / 3 + n / 268435456 % 2 + 1, cmdOf n⟩
set_option maxHeartbeats 2000000 in
set_option maxRecDepth 100000 in
theorem entD_any (n : Int) (i : Nat) (hi : i ≤ 100) (w : World) : Calls Try.prog 22 #[.int .i64 n, .int .i64 (i : Int)] w fun e w' => ∃ ca, e = .returned (entV ca (entOf n i)) ∧ (entOf n i).c.Fits ∧ RdC w' w'.heap.size ca (entOf n i).c ∧ Below w.heap.size w w' := by
  have a7 := and_7
  have a1 := and_1
  have hb0 : Below w.heap.size w (w.alloc (.cells #[.int .i64 0, .int .i64 0, .int .i64 0, .int .i64 0, .slice none 0 0, .slice none 0 0, .slice none 0 0] 27)) := (Below.refl _ _).alloc (Nat.le_refl _) _
  have HB0 := Lib.hid hb0
  have HK := Lib.hid (Blk.new w 27 #[.int .i64 0, .int .i64 0, .int .i64 0, .int .i64 0, .slice none 0 0, .slice none 0 0, .slice none 0 0])
  clear hb0
  go_enter Try.func22, Try.ntmps22
  go_wp2_with fail
  refine (cmd_det n _).mono ?_
  rintro e w1 ⟨ca, rfl, hf, hr, hb⟩
  obtain ⟨c, hc⟩ : ∃ c, cmdOf n = c := ⟨_, rfl⟩
  have HC := Lib.hid hc
  rw [hc] at hf hr ⊢
  clear hc
  have HK1 := Lib.hid (HK.out.below hb)
  have HB1 := Lib.hid (HB0.out.trans (hb.mono HB0.out.size))
  have HR := Lib.hid hr
  have HF := Lib.hid hf
  clear hb hr hf HK HB0
  obtain ⟨x0, x1, x2, x3, x4, x5, x6⟩ := seven HK1.out
  have f0 := HK1.out.frozen 0
  have f1 := HK1.out.frozen 1
  have f2 := HK1.out.frozen 2
  have f3 := HK1.out.frozen 3
  have f4 := HK1.out.frozen 4
  have f5 := HK1.out.frozen 5
  have f6 := HK1.out.frozen 6
  unfold cmdV cmdC
  go_wp2_with fail
  obtain ⟨p1, p2, p3⟩ := put7 HK1.out ca ⟨_, _, c⟩ HR.out
  refine bodyPost_ret (results_cell_row rfl _ _ _ _ _ _ _ rfl p1 Try.underlying27 rfl (by kernel_rfl)) rfl ?_
  have hc := HC.out
  have he : (⟨n / 33554432 % 8 % 6 + 1, (i : Int) / 3 + n / 268435456 % 2 + 1, c⟩ : En) = entOf n i := by unfold entOf; rw [hc]
  have hq : c = (entOf n i).c := by unfold entOf; exact hc.symm
  exact ⟨ca, by rw [← he]; rfl, hq ▸ HF.out, hq ▸ p2, p3 w (Nat.le_refl _) HB1.out⟩
/-- .. with nobody below nought -/
def entMax (e : En) : En := ⟨e.s, e.q, ⟨e.c.kind, if e.c.who < 0 then 0 else e.c.who, e.c.key, e.c.val, e.c.old⟩⟩
theorem tabk_le : ∀ p, p < 4 → 1 ≤ tabk p ∧ tabk p ≤ 9 := by
  intro p hp
  have h : p = 0 ∨ p = 1 ∨ p = 2 ∨ p = 3 := by omega
  rcases h with rfl | rfl | rfl | rfl <;> exact ⟨by decide, by decide⟩
theorem tab16_size : ∀ j, j < 16 → (tab16 j).size ≤ 9 := by
  intro j hj
  have h : j = 0 ∨ j = 1 ∨ j = 2 ∨ j = 3 ∨ j = 4 ∨ j = 5 ∨ j = 6 ∨ j = 7 ∨ j = 8 ∨ j = 9 ∨ j = 10 ∨ j = 11 ∨ j = 12 ∨ j = 13 ∨ j = 14 ∨ j = 15 := by omega
  rcases h with rfl | rfl | rfl | rfl | rfl | rfl | rfl | rfl | rfl | rfl | rfl | rfl | rfl | rfl | rfl | rfl <;> decide
theorem sb_lenM (s : ByteArray) : (sb s).length = s.size := by unfold sb; rw [List.length_map, Array.length_toList]; rfl
theorem entMax_ok (n : Int) (i : Nat) (hi : i ≤ 100) : (entMax (entOf n i)).ok = true := by
  have h1 : (keyOf (n / 2048)).length ≤ 9 := by unfold keyOf; rw [sb_lenM]; exact tab16_size _ (by omega)
  have h2 : (sb (tab8 (n / 32 % 8).toNat)).length ≤ 17 := by rw [sb_lenM]; exact tab8_size _ (by omega)
  have h3 : (sb (tab4 (n / 32768 % 4).toNat)).length ≤ 2 := by rw [sb_lenM]; exact tab4_size _ (by omega)
  have h4 := tabk_le (n / 131072 % 4).toNat (by omega)
  have h5 : (cmdOf n).who ≤ 1073741824 := by unfold cmdOf; simp only []; split <;> omega
  have h6 : 0 ≤ (cmdOf n).kind ∧ (cmdOf n).kind ≤ 1073741824 := by
    unfold cmdOf; simp only []
    split
    · omega
    · split <;> omega
  have k1 : (cmdOf n).key.length ≤ 32 := by unfold cmdOf; simp only []; omega
  have k2 : (cmdOf n).val.length ≤ 32 := by unfold cmdOf; simp only []; omega
  have k3 : (cmdOf n).old.length ≤ 32 := by unfold cmdOf; simp only []; omega
  unfold En.ok entMax entOf
  simp only [Bool.and_eq_true, wi_iff, decide_eq_true_eq]
  refine ⟨by omega, by omega, h6, ?_, k1, k2, k3⟩
  split <;> omega
end Go.Proofs.Ytmdkbmafkglhdaa

namespace Go.Proofs.Ytmdkbmafkglhdaa
open Go.RowKit
set_option linter.unusedVariables false
def datF (m : Int) (i : Nat) : Nat := ((m / 2 ^ (i % 16)) % 256).toNat
def havF (m : Int) (i : Nat) : Int := m / 2 ^ i % 64
def neeF (m : Int) (i : Nat) : Int := m / 2 ^ (i + 3) % 64
def hdOf (n : Int) : Mg := { Mg.zero with kind := n % 8 + 1, frm := n / 8 % 8 % 7, dst := n / 64 % 8 % 7, view := n / 512 % 1024 }
/-- the message of two numbers -/
def mgOf (n m : Int) : Mg :=
  if n % 8 + 1 = 2 then { hdOf n with inst := m % 256, len := m / 256 % 64, has := (m / 16384 % 2 == 1) }
  else if n % 8 + 1 = 3 then { hdOf n with mem := m % 128, src := m / 128 % 8 % 7, len := m / 1024 % 64 }
  else if n % 8 + 1 = 4 then { hdOf n with pos := m % 4096 }
  else if n % 8 + 1 = 5 then { hdOf n with pos := m % 4096, tot := m / 4096 % 4096, data := (List.range (m / 16777216 % 64).toNat).map (datF m) }
  else if n % 8 + 1 = 7 then { hdOf n with hop := m % 1024, seq := m / 1024 % 256, hav := (List.range (m / 262144 % 8).toNat).map (havF m), nee := (List.range (m / 2097152 % 8).toNat).map (neeF m) }
  else if n % 8 + 1 = 8 then { hdOf n with idx := m % 1024, ent := entMax (entOf n (m / 1024 % 64).toNat) }
  else hdOf n
/-- under way: the answer's variable g, the message's g + 1 -/
structure MsSt (w wx : World) (g : Nat) (cs : Array Value) : Prop where
  res : Blk wx g 29 msgZ
  blk : Blk wx (g + 1) 29 cs
  bel : Below w.heap.size w wx
  hg : w.heap.size = g
theorem MsSt.put {w wx : World} {g : Nat} {cs : Array Value} (h : MsSt w wx g cs) (i : Nat) (u : Value) : MsSt w (wx.setCell ⟨g + 1, i, none⟩ u) g (cs.setIfInBounds i u) :=
  ⟨h.res.set_other (by omega), h.blk.set_ i u, h.bel.setCell (by have := h.hg; show w.heap.size ≤ g + 1; omega) u, h.hg⟩
theorem MsSt.below {w wx wy : World} {g : Nat} {cs : Array Value} (h : MsSt w wx g cs) (hb : Below wx.heap.size wx wy) : MsSt w wy g cs :=
  ⟨h.res.below hb, h.blk.below hb, h.bel.trans (hb.mono h.bel.size), h.hg⟩
theorem MsSt.row {w wx wy : World} {g n c size : Nat} {A : Option Addr} {e : TypeId} {xs : List Value} {cs : Array Value} (h : MsSt w wx g cs) (ho : wx.ownsRow w.heap.size e size (.slice A n c) n xs) (h1 : 29 ≠ e) (hg : wx.grownBy wy (Value.slice A n c).ownBlock) : MsSt w wy g cs :=
  ⟨h.res.apart_own ho h1 hg, h.blk.apart_own ho h1 hg, h.bel.grown hg h.bel.size (fun k hk => (ho.lt k hk).1), h.hg⟩
def isB : Value → Bool
  | .int .u8 _ => true
  | _ => false
theorem noB24 {cs : Array Value} (h : cs.toList.all (fun v => !isB v) = true) (_ : cs.size = 24) : NoByte cs := by
  intro j x hj
  have hm : Value.int .u8 (x : Int) ∈ cs.toList := by
    have := Array.mem_of_getElem? hj
    simpa using this
  have := List.all_eq_true.1 h _ hm
  simp [isB] at this
theorem RdC.setRowK {w : World} {B b : Nat} {t : TypeId} {cs c : Array Value} {a : CA} {k : Cm} (h : RdC w B a k) (hb : Blk w b t cs) (hk : NoByte cs) : RdC (w.setRow b c) (w.setRow b c).heap.size a k := by
  have hr : ∀ {A : Option Addr} {n : Nat} {l : List Nat}, Rd w B A n (bv l) → Rd (w.setRow b c) (w.setRow b c).heap.size A n (bv l) := by
    intro A n l h
    have h := h.fit
    refine ⟨h.1, fun hn => ?_⟩
    obtain ⟨g, o, e1, hlt, e3⟩ := h.2 hn
    refine ⟨g, o, e1, by simpa using hlt, fun i hi => ?_⟩
    have hne : g ≠ b := by
      rintro rfl
      have h3 := e3 i hi
      have hlen := h.1
      rw [bv_length] at hlen
      have hv : (bv l)[i]? = some (.int .u8 ((l[i]'(by omega) : Nat) : Int)) := bv_get (by omega)
      rw [hv, hb.cell] at h3
      exact hk _ _ h3
    rw [cell_setRow_other w b c ⟨g, o + i, none⟩ hne]
    exact e3 i hi
  exact ⟨hr h.rk, hr h.rv, hr h.ro⟩
theorem own_apart {w wx wy W : World} {e e' : TypeId} {size size' n n' : Nat} {v v' : Value} {xs xs' : List Value} (h : wx.ownsRow w.heap.size e size v n xs) (ho : Old W v.ownBlock) (h' : wx.ownsRow W.heap.size e' size' v' n' xs') (hg : wx.grownBy wy v'.ownBlock) : wy.ownsRow w.heap.size e size v n xs := by
  refine h.kept hg ?_
  cases hb : v.ownBlock with
  | none => exact .inl rfl
  | some b =>
    right
    intro heq
    have h1 := ho b hb
    have h2 := (h'.lt b heq.symm).1
    omega
end Go.Proofs.Ytmdkbmafkglhdaa

namespace Go.Proofs.Ytmdkbmafkglhdaa
open Go.RowKit
set_option linter.unusedVariables false
theorem range_all {p : Int → Bool} (N : Nat) (f : Nat → Int) (h : ∀ i, p (f i) = true) : ((List.range N).map f).all p = true := by
  rw [List.all_eq_true]
  intro x hx
  obtain ⟨i, _, rfl⟩ := List.mem_map.1 hx
  exact h i
theorem mgOf_ok (n m : Int) : (mgOf n m).ok = true := by
  have hh : (hdOf n).headOk = true := by
    unfold Mg.headOk hdOf
    simp only [Bool.and_eq_true, wi_iff]
    refine ⟨?_, ?_, ?_⟩ <;> omega
  have hd : ∀ {N : Nat} (f : Nat → Int) (K : Nat), N ≤ K → (∀ i, 0 ≤ f i ∧ f i < 64) → wis K ((List.range N).map f) = true := by
    intro N f K hN hf
    unfold wis
    rw [Bool.and_eq_true]
    exact ⟨by simpa using hN, range_all N f fun i => wi_iff.2 ⟨(hf i).1, by have := (hf i).2; omega⟩⟩
  have hk : 1 ≤ n % 8 + 1 ∧ n % 8 + 1 ≤ 8 := by omega
  unfold mgOf
  by_cases c2 : n % 8 + 1 = 2
  · rw [if_pos c2]
    unfold Mg.ok Mg.tailOk
    have hc : (hdOf n).kind = 2 := c2
    simp only [hc, if_true, Bool.and_eq_true, wi_iff]
    exact ⟨hh, by omega, by omega⟩
  rw [if_neg c2]
  by_cases c3 : n % 8 + 1 = 3
  · rw [if_pos c3]
    unfold Mg.ok Mg.tailOk
    have hc : (hdOf n).kind = 3 := c3
    simp [hc, wi_iff]
    exact ⟨hh, by omega, by omega, by omega⟩
  rw [if_neg c3]
  by_cases c4 : n % 8 + 1 = 4
  · rw [if_pos c4]
    unfold Mg.ok Mg.tailOk
    have hc : (hdOf n).kind = 4 := c4
    simp [hc, wi_iff]
    exact ⟨hh, by omega⟩
  rw [if_neg c4]
  by_cases c5 : n % 8 + 1 = 5
  · rw [if_pos c5]
    unfold Mg.ok Mg.tailOk
    have hc : (hdOf n).kind = 5 := c5
    simp [hc, wi_iff]
    exact ⟨hh, by omega, by omega, by omega⟩
  rw [if_neg c5]
  by_cases c7 : n % 8 + 1 = 7
  · rw [if_pos c7]
    unfold Mg.ok Mg.tailOk
    have hc : (hdOf n).kind = 7 := c7
    simp [hc, wi_iff]
    exact ⟨hh, by omega, by omega, hd _ _ (by omega) (fun i => by unfold havF; omega), hd _ _ (by omega) (fun i => by unfold neeF; omega)⟩
  rw [if_neg c7]
  by_cases c8 : n % 8 + 1 = 8
  · rw [if_pos c8]
    unfold Mg.ok Mg.tailOk
    have hc : (hdOf n).kind = 8 := c8
    simp [hc, wi_iff]
    exact ⟨hh, by omega, entMax_ok n _ (by omega)⟩
  rw [if_neg c8]
  unfold Mg.ok Mg.tailOk
  have hc : (hdOf n).kind = n % 8 + 1 := rfl
  simp only [hc, if_neg c2, if_neg c3, if_neg c4, if_neg c5, if_neg c7, if_neg c8]
  rw [hh]
  simp
  omega
theorem mgOf_bare (n m : Int) : (mgOf n m).bare = mgOf n m := by
  unfold mgOf
  have hc : (hdOf n).kind = n % 8 + 1 := rfl
  by_cases c2 : n % 8 + 1 = 2
  · rw [if_pos c2]; unfold Mg.bare; simp only [hc, c2, if_true]; rfl
  rw [if_neg c2]
  by_cases c3 : n % 8 + 1 = 3
  · rw [if_pos c3]; unfold Mg.bare; simp [hc, c3]; simp [hdOf, c3]
  rw [if_neg c3]
  by_cases c4 : n % 8 + 1 = 4
  · rw [if_pos c4]; unfold Mg.bare; simp [hc, c4]; simp [hdOf, c4]
  rw [if_neg c4]
  by_cases c5 : n % 8 + 1 = 5
  · rw [if_pos c5]; unfold Mg.bare; simp [hc, c5]; simp [hdOf, c5]
  rw [if_neg c5]
  by_cases c7 : n % 8 + 1 = 7
  · rw [if_pos c7]; unfold Mg.bare; simp [hc, c7]; simp [hdOf, c7]
  rw [if_neg c7]
  by_cases c8 : n % 8 + 1 = 8
  · rw [if_pos c8]; unfold Mg.bare; simp [hc, c8]; simp [hdOf, c8]
  rw [if_neg c8]
  unfold Mg.bare
  simp [c2, c3, c4, c5, c7, c8, hdOf]
theorem eI_len (z : Int) : (eI z).length ≤ 9 := (Pk.enc_length _).2
theorem En.ok_len' {e : En} (h : e.ok = true) : e.enc.length ≤ 200 := En.ok_len h
theorem En.enc_lt' {e : En} (h : e.c.Wide) : ∀ x ∈ e.enc, x < 256 := En.enc_lt h
theorem datF_lt (m : Int) (i : Nat) : datF m i < 256 := by unfold datF; omega
theorem sbM_lt (s : ByteArray) : ∀ x ∈ sb s, x < 256 := sb_lt s
theorem mgOf_wide (n m : Int) : (mgOf n m).Wide := by
  have hz : (hdOf n).Wide := ⟨⟨by simp [hdOf, Mg.zero], by simp [hdOf, Mg.zero]⟩, by simp [hdOf, Mg.zero], by simp [hdOf, Mg.zero], Cm.Fits.zero.wide⟩
  unfold mgOf
  split
  · exact ⟨hz.d, hz.h, hz.n, hz.c⟩
  split
  · exact ⟨hz.d, hz.h, hz.n, hz.c⟩
  split
  · exact ⟨hz.d, hz.h, hz.n, hz.c⟩
  split
  · refine ⟨⟨by simp; omega, fun x hx => ?_⟩, hz.h, hz.n, hz.c⟩
    obtain ⟨i, _, rfl⟩ := List.mem_map.1 hx
    exact datF_lt m i
  split
  · exact ⟨hz.d, by simp; omega, by simp; omega, hz.c⟩
  split
  · refine ⟨hz.d, hz.h, hz.n, ?_⟩
    have h := entMax_ok n (m / 1024 % 64).toNat (by omega)
    unfold En.ok at h
    simp only [Bool.and_eq_true, decide_eq_true_eq] at h
    obtain ⟨_, _, _, _, h5, h6, h7⟩ := h
    exact ⟨⟨Nat.le_trans h5 (by omega), sbM_lt _⟩, ⟨Nat.le_trans h6 (by omega), sbM_lt _⟩, ⟨Nat.le_trans h7 (by omega), sbM_lt _⟩⟩
  · exact hz
theorem encs_wis {k : Nat} {l : List Int} (h : wis k l = true) : (Pk.encs l).length ≤ 9 * k := by
  unfold wis at h
  rw [Bool.and_eq_true, decide_eq_true_eq] at h
  have := Pk.encs_length l
  omega
theorem Mg.enc_len {m : Mg} (h : m.ok = true) : m.enc.length ≤ 1000 := by
  unfold Mg.enc
  rw [if_pos h]
  unfold Mg.ok at h
  rw [Bool.and_eq_true] at h
  have ht := h.2
  unfold Mg.tailOk at ht
  unfold Mg.head Mg.tail
  have e1 := eI_len m.kind
  have e2 := eI_len m.frm
  have e3 := eI_len m.dst
  have e4 := eI_len m.view
  have e5 := eI_len m.inst
  have e6 := eI_len m.len
  have e7 := eI_len m.has01
  have e8 := eI_len m.mem
  have e9 := eI_len m.src
  have e10 := eI_len m.pos
  have e11 := eI_len m.tot
  have e12 := eI_len m.hop
  have e13 := eI_len m.seq
  have e14 := eI_len m.idx
  have e15 := encB_length m.data
  have e16 := encN_length m.hav.length
  have e17 := encN_length m.nee.length
  simp only [List.length_append]
  split
  · simp only [List.length_append]; omega
  rename_i c2; rw [if_neg c2] at ht
  split
  · simp only [List.length_append]; omega
  rename_i c3; rw [if_neg c3] at ht
  split
  · omega
  rename_i c4; rw [if_neg c4] at ht
  split
  · rename_i c5; rw [if_pos c5] at ht
    simp only [Bool.and_eq_true, decide_eq_true_eq] at ht
    simp only [List.length_append]; omega
  rename_i c5; rw [if_neg c5] at ht
  split
  · rename_i c7; rw [if_pos c7] at ht
    simp only [Bool.and_eq_true] at ht
    have q1 := encs_wis ht.2.2.1
    have q2 := encs_wis ht.2.2.2
    simp only [List.length_append]; omega
  rename_i c7; rw [if_neg c7] at ht
  split
  · rename_i c8; rw [if_pos c8] at ht
    simp only [Bool.and_eq_true] at ht
    have q := En.ok_len' ht.2
    simp only [List.length_append]; omega
  · simp; omega
theorem Mg.enc_lt {m : Mg} (h : m.ok = true) (hw : m.Wide) : ∀ x ∈ m.enc, x < 256 := by
  have hI : ∀ z, ∀ x ∈ eI z, x < 256 := fun z => Pk.enc_lt (Pk.held_le _)
  have hd : ∀ x ∈ Pk.encB m.data, x < 256 := Pk.encB_lt hw.d.2 (by have := hw.d.1; unfold Pk.top; omega)
  have he : ∀ x ∈ m.ent.enc, x < 256 := En.enc_lt' hw.c
  intro x hx
  unfold Mg.enc at hx
  rw [if_pos h] at hx
  unfold Mg.head Mg.tail at hx
  rcases List.mem_append.1 hx with hx | hx
  · simp only [List.mem_append] at hx
    rcases hx with hx | hx | hx | hx <;> exact hI _ x hx
  · split at hx
    · simp only [List.mem_append] at hx
      rcases hx with hx | hx | hx <;> exact hI _ x hx
    split at hx
    · simp only [List.mem_append] at hx
      rcases hx with hx | hx | hx <;> exact hI _ x hx
    split at hx
    · exact hI _ x hx
    split at hx
    · simp only [List.mem_append] at hx
      rcases hx with hx | hx | hx
      · exact hI _ x hx
      · exact hI _ x hx
      · exact hd x hx
    split at hx
    · simp only [List.mem_append] at hx
      rcases hx with hx | hx | hx | hx | hx | hx
      · exact hI _ x hx
      · exact hI _ x hx
      · exact encN_lt _ x hx
      · exact Pk.encs_lt _ x hx
      · exact encN_lt _ x hx
      · exact Pk.encs_lt _ x hx
    split at hx
    · simp only [List.mem_append] at hx
      rcases hx with hx | hx
      · exact hI _ x hx
      · exact he x hx
    · cases hx
end Go.Proofs.Ytmdkbmafkglhdaa

namespace Go.Proofs.Ytmdkbmafkglhdaa
open Go.RowKit
set_option linter.unusedVariables false
theorem encB_mem {l : List Nat} {x : Nat} (h : x ∈ l) : x ∈ Pk.encB l := by unfold Pk.encB; exact List.mem_append_right _ h
theorem En.mem_key {e : En} {x : Nat} (h : x ∈ e.c.key) : x ∈ e.enc := by
  have := encB_mem h
  unfold En.enc; simp only [List.mem_append]; exact .inr (.inr (.inr (.inr (.inl this))))
theorem En.mem_val {e : En} {x : Nat} (h : x ∈ e.c.val) : x ∈ e.enc := by
  have := encB_mem h
  unfold En.enc; simp only [List.mem_append]; exact .inr (.inr (.inr (.inr (.inr (.inl this)))))
theorem En.mem_old {e : En} {x : Nat} (h : x ∈ e.c.old) : x ∈ e.enc := by
  have := encB_mem h
  unfold En.enc; simp only [List.mem_append]; exact .inr (.inr (.inr (.inr (.inr (.inr this)))))
theorem En.ok_wide {e : En} (h : e.ok = true) (hb : ∀ x ∈ e.enc, x < 256) : e.c.Wide := by
  unfold En.ok at h
  simp only [Bool.and_eq_true, decide_eq_true_eq] at h
  obtain ⟨_, _, _, _, h5, h6, h7⟩ := h
  exact ⟨⟨by omega, fun x hx => hb x (En.mem_key hx)⟩, ⟨by omega, fun x hx => hb x (En.mem_val hx)⟩, ⟨by omega, fun x hx => hb x (En.mem_old hx)⟩⟩
/-- a message that may be, of bytes -/
theorem Mg.ok_bare_wide {m : Mg} (h : m.ok = true) (hb : ∀ x ∈ m.enc, x < 256) : m.bare.Wide := by
  have hz := Mg.Wide.zero
  have ht : ∀ x ∈ m.tail, x < 256 := fun x hx => hb x (by unfold Mg.enc; rw [if_pos h]; exact List.mem_append_right _ hx)
  have ho : m.tailOk = true := by unfold Mg.ok at h; rw [Bool.and_eq_true] at h; exact h.2
  unfold Mg.tail at ht
  unfold Mg.tailOk at ho
  unfold Mg.bare
  split
  · exact ⟨hz.d, hz.h, hz.n, hz.c⟩
  rename_i k2
  rw [if_neg k2] at ht ho
  split
  · exact ⟨hz.d, hz.h, hz.n, hz.c⟩
  rename_i k3
  rw [if_neg k3] at ht ho
  split
  · exact ⟨hz.d, hz.h, hz.n, hz.c⟩
  rename_i k4
  rw [if_neg k4] at ht ho
  split
  · rename_i k5
    rw [if_pos k5] at ht ho
    simp only [Bool.and_eq_true, decide_eq_true_eq] at ho
    exact ⟨⟨by have := ho.2.2; show m.data.length ≤ 2000000; omega, fun x hx => ht x (by simp only [List.mem_append]; exact .inr (.inr (encB_mem hx)))⟩, hz.h, hz.n, hz.c⟩
  rename_i k5
  rw [if_neg k5] at ht ho
  split
  · rename_i k7
    rw [if_pos k7] at ho
    unfold wis at ho
    simp only [Bool.and_eq_true, decide_eq_true_eq] at ho
    exact ⟨hz.d, by have := ho.2.2.1.1; show m.hav.length ≤ 2000000; omega, by have := ho.2.2.2.1; show m.nee.length ≤ 2000000; omega, hz.c⟩
  rename_i k7
  rw [if_neg k7] at ht ho
  split
  · rename_i k8
    rw [if_pos k8] at ht ho
    simp only [Bool.and_eq_true] at ho
    exact ⟨hz.d, hz.h, hz.n, En.ok_wide ho.2 fun x hx => ht x (List.mem_append_right _ hx)⟩
  · exact ⟨hz.d, hz.h, hz.n, hz.c⟩
/-- what is read of bytes -/
theorem Mg.dec_wide {l : List Nat} (hb : ∀ x ∈ l, x < 256) {m : Mg} (h : Mg.dec l = some m) : m.Wide := by
  obtain ⟨h1, h2, h3⟩ := Mg.dec_canon hb h
  rw [← h3]
  exact Mg.ok_bare_wide h1 (by rw [h2]; exact hb)
/-- a message that may not be told has no bytes; one that may has some -/
theorem Mg.enc_none {m : Mg} (h : m.ok = false) : m.enc = [] := by unfold Mg.enc; rw [h]; simp
theorem Mg.enc_some {m : Mg} (h : m.ok = true) : m.enc ≠ [] := by
  intro h0
  have h1 := Mg.dec_enc h
  rw [h0] at h1
  have h2 : Mg.dec [] = none := by decide +kernel
  rw [h2] at h1; cases h1
end Go.Proofs.Ytmdkbmafkglhdaa

namespace Go.Proofs.Ytmdkbmafkglhdaa
open Go.RowKit
set_option linter.unusedVariables false
theorem wis_take {k : Nat} {zs : List Int} (h : zs.all (wi 1099511627776) = true) : wis k zs = decide (zs.length ≤ k) := by
  unfold wis; rw [h, Bool.and_true]
theorem wis_no {k j : Nat} {zs : List Int} {z : Int} (h : zs[j]? = some z) (hz : wi 1099511627776 z = false) : wis k zs = false := by
  unfold wis
  rw [Bool.and_eq_false_iff]
  refine .inr ?_
  rw [← Bool.not_eq_true, List.all_eq_true]
  intro hh
  have := hh z (List.mem_of_getElem? h)
  rw [hz] at this
  cases this
set_option maxHeartbeats 1000000 in
set_option maxRecDepth 100000 in
theorem refWithin (w : World) {A : Option Addr} {n c B : Nat} {zs : List Int} (h : Rd w B A n (iv zs)) (hn : n ≤ 2000000) (k : Nat) (hk : k ≤ 100) : Calls Try.prog 44 #[.slice A n c, .int .i64 (k : Int)] w fun e w' => e = .returned (.bool (wis k zs)) ∧ w = w' := by
  have hlen : zs.length = n := by have := h.1; rwa [iv_length] at this
  have H := Lib.hid h
  have HL := Lib.hid hlen
  clear h hlen
  go_enter Try.func44, Try.ntmps44
  go_wp2
  go_loop [5] (fun i => ∃ j : Nat, j ≤ n ∧ i = .int .i64 (j : Int) ∧ Hid (∀ x ∈ zs.take j, wi 1099511627776 x = true)) (fun i => n - (intOf i).toNat)
  case atStart => exact ⟨0, by omega, rfl, Lib.hid (fun x hx => by simp at hx)⟩
  case round =>
    obtain ⟨j, hj, rfl, HW⟩ := hrel
    by_cases hlt : j < n
    · obtain ⟨b, o, rfl, _⟩ := H.out.int_at hlt
      obtain ⟨z, hz⟩ : ∃ z, zs[j]? = some z := ⟨_, List.getElem?_eq_getElem (by have := HL.out; omega)⟩
      have hc := H.out.int_cell hlt hz
      have HZ := Lib.hid hz
      clear hz
      by_cases h0 : z < 0
      · have HR : Hid (wis k zs = false) := Lib.hid (wis_no HZ.out (by rw [← Bool.not_eq_true, wi_iff]; omega))
        go_wp2
        go_ret
        exact ⟨by rw [HR.out]; rfl, rfl⟩
      · by_cases h1 : 1099511627776 < z
        · have HR : Hid (wis k zs = false) := Lib.hid (wis_no HZ.out (by rw [← Bool.not_eq_true, wi_iff]; omega))
          go_wp2
          go_ret
          exact ⟨by rw [HR.out]; rfl, rfl⟩
        · have HZW : Hid (wi 1099511627776 z = true) := Lib.hid (wi_iff.2 ⟨by omega, by omega⟩)
          go_wp2
          go_round
          case rel =>
            refine ⟨j + 1, by omega, by go_num, Lib.hid (fun x hx => ?_)⟩
            rw [List.take_add_one, HZ.out] at hx
            rcases List.mem_append.1 hx with hx | hx
            · exact HW.out x hx
            · simp at hx; rw [hx]; exact HZW.out
          case measure => simp [intOf]; omega
    · have HR : Hid (wis k zs = decide (n ≤ k)) := Lib.hid (by
        have hl := HL.out
        have e : zs.take j = zs := List.take_of_length_le (by omega)
        have hw := HW.out
        rw [e] at hw
        rw [wis_take (List.all_eq_true.2 hw), hl])
      go_wp2
      go_ret
      exact ⟨by rw [HR.out]; rfl, rfl⟩
theorem encs_take {zs : List Int} {j : Nat} {z : Int} (h : zs[j]? = some z) : Pk.encs (zs.take (j + 1)) = Pk.encs (zs.take j) ++ Pk.enc (Pk.held z) := by
  rw [List.take_add_one, h]
  exact Pk.encs_snoc _ _
set_option maxHeartbeats 1000000 in
set_option maxRecDepth 100000 in
theorem refNums {W w : World} {A A' : Option Addr} {c n' c' B' : Nat} {l : List Nat} {zs : List Int} (ho : OwnB W w A l.length c l) (h : Rd w B' A' n' (iv zs)) (hl : l.length ≤ 1000000) (hn : n' ≤ 1000) (hB : Below W.heap.size W w) :
    Calls Try.prog 24 #[.slice A l.length c, .slice A' n' c'] w (GotIn W w (l ++ Pk.encs zs)) := by
  have hlen : zs.length = n' := by have := h.1; rwa [iv_length] at this
  have H := Lib.hid h.fit
  have HL := Lib.hid hlen
  have HO := Lib.hid ho
  have HB := Lib.hid hB
  have HLL := Lib.hid hl
  clear h hlen ho hB hl
  go_enter Try.func24, Try.ntmps24
  go_wp2
  go_loopw [0, 5] (fun b i wr => ∃ (j : Nat) (A1 : Option Addr) (c1 : Nat), j ≤ n' ∧ i = .int .i64 (j : Int) ∧ b = .slice A1 (l ++ Pk.encs (zs.take j)).length c1 ∧ Hid (OwnB W wr A1 (l ++ Pk.encs (zs.take j)).length c1 (l ++ Pk.encs (zs.take j))) ∧ Hid (Below W.heap.size W wr) ∧ Hid (Below w.heap.size w wr)) (fun _ i _ => n' - (intOf i).toNat)
  case atStart => exact ⟨0, A, c, by omega, rfl, by simp [Pk.encs], Lib.hid (by simpa [Pk.encs] using HO.out), HB, Lib.hid (Below.refl _ _)⟩
  case round =>
    obtain ⟨j, A1, c1, hj, rfl, rfl, HO1, HB1, HW1⟩ := hrel
    by_cases hlt : j < n'
    · obtain ⟨b, o, rfl, _⟩ := H.out.int_at hlt
      obtain ⟨z, hz⟩ : ∃ z, zs[j]? = some z := ⟨_, List.getElem?_eq_getElem (by have := HL.out; omega)⟩
      have hc := (H.out.below HW1.out).int_cell hlt hz
      have HE := Lib.hid (encs_take hz)
      clear hz
      have hX : (l ++ Pk.encs (zs.take j)).length ≤ 1000000 + 9 * 1000 := by
        rw [List.length_append]
        have h1 := Pk.encs_length (zs.take j)
        have h2 := HLL.out
        rw [List.length_take] at h1
        omega
      obtain ⟨X, hXX⟩ : ∃ X, l ++ Pk.encs (zs.take j) = X := ⟨_, rfl⟩
      obtain ⟨Y, hY⟩ : ∃ Y, l ++ Pk.encs (zs.take (j + 1)) = Y := ⟨_, rfl⟩
      have he : X ++ Pk.enc (Pk.held z) = Y := by rw [← hXX, ← hY, HE.out, List.append_assoc]
      rw [hXX] at HO1 hX ⊢
      have HCC : Hid (Calls Try.prog 46 #[.slice A1 X.length c1, .int .i64 z] wr (GotIn W wr Y)) := Lib.hid (refput_in he (by unfold Lim; omega) (Rd.own_ HO1.out) HB1.out)
      have HY := Lib.hid hY
      clear hX hXX hY he HE
      go_wp2_with (go_at_call 46; refine HCC.out.mono ?_; rintro e w2 ⟨A2, c2, rfl, ho2, hB2, hb2⟩; have HO2 := Lib.hid ho2; have HB2 := Lib.hid hB2; have HW2 := Lib.hid (HW1.out.trans (hb2.mono HW1.out.size)); clear ho2 hB2 hb2)
      go_roundw
      case rel =>
        refine ⟨j + 1, A2, c2, by omega, by go_num, ?_⟩
        rw [HY.out]
        exact ⟨rfl, HO2, HB2, HW2⟩
      case measure => simp [intOf]; omega
    · have HJ : Hid (zs.take j = zs) := Lib.hid (List.take_of_length_le (by have := HL.out; omega))
      rw [HJ.out] at HO1 ⊢
      obtain ⟨X, hXX⟩ : ∃ X, l ++ Pk.encs zs = X := ⟨_, rfl⟩
      have HXX := Lib.hid hXX
      rw [hXX] at HO1 ⊢
      clear hXX
      go_wp2
      go_ret
      exact ⟨A1, c1, by rw [HXX.out]; rfl, by rw [HXX.out]; exact HO1.out, HB1.out, HW1.out⟩
end Go.Proofs.Ytmdkbmafkglhdaa

namespace Go.Proofs.Ytmdkbmafkglhdaa
open Go.RowKit
set_option linter.unusedVariables false
section
variable {w : World} {g : Nat} {x y : Operand} {p q : Int}
theorem ch_ge : (binOp .geq 3 (.int .i64 p) (.int .i64 q)).run Try.prog w = .ok (.bool (decide (q ≤ p))) w := by kernel_rfl
theorem ch_le : (binOp .leq 3 (.int .i64 p) (.int .i64 q)).run Try.prog w = .ok (.bool (decide (p ≤ q))) w := by kernel_rfl
theorem ch_ggeq : (eqGuard .geq 3 x y (.int .i64 p) (.int .i64 q)).run Try.prog w = .ok () w := by kernel_rfl
theorem ch_gleq : (eqGuard .leq 3 x y (.int .i64 p) (.int .i64 q)).run Try.prog w = .ok () w := by kernel_rfl
theorem ch_fe0 : (Instr.fieldAt 27 (.pointer (some ⟨g, 0, none⟩)) 0).run Try.prog w = .ok (.pointer (some ⟨g, 0, none⟩)) w := by kernel_rfl
theorem ch_fe1 : (Instr.fieldAt 27 (.pointer (some ⟨g, 0, none⟩)) 1).run Try.prog w = .ok (.pointer (some ⟨g, 1, none⟩)) w := by kernel_rfl
theorem ch_fc0 : (Instr.fieldAt 25 (.pointer (some ⟨g, 0, none⟩)) 0).run Try.prog w = .ok (.pointer (some ⟨g, 0, none⟩)) w := by kernel_rfl
theorem ch_fc1 : (Instr.fieldAt 25 (.pointer (some ⟨g, 0, none⟩)) 1).run Try.prog w = .ok (.pointer (some ⟨g, 1, none⟩)) w := by kernel_rfl
theorem ch_fc2 : (Instr.fieldAt 25 (.pointer (some ⟨g, 0, none⟩)) 2).run Try.prog w = .ok (.pointer (some ⟨g, 2, none⟩)) w := by kernel_rfl
theorem ch_fc3 : (Instr.fieldAt 25 (.pointer (some ⟨g, 0, none⟩)) 3).run Try.prog w = .ok (.pointer (some ⟨g, 3, none⟩)) w := by kernel_rfl
theorem ch_fc4 : (Instr.fieldAt 25 (.pointer (some ⟨g, 0, none⟩)) 4).run Try.prog w = .ok (.pointer (some ⟨g, 4, none⟩)) w := by kernel_rfl
end
theorem ch_lenX {o : Oper} {a : Act} {w : World} {A : Option Addr} {n c : Nat} {x : Operand} (ho : o.op = .call { callee := .builtin .len, args := #[x], argTypes := #[22] }) (hx : a.eval x = .slice A n c) : (execOp a.eval o).run Try.prog w = .ok (.value (.int .i64 (n : Int))) w := by
  unfold execOp
  simp only [ho, resolve, invoke, builtin, Sem.run_bind, Sem.run_pure, Result.andThen_ok, List.map_toArray, List.map_cons, List.map_nil, hx]
  simp [Builtin.len_, go_sem]
set_option maxHeartbeats 1000000 in
set_option maxRecDepth 100000 in
theorem refEntry11 (w : World) {ca : CA} {e : En} : Calls Try.prog 45 #[entV ca e] w fun en w' => en = .returned (.bool e.ok) ∧ Below w.heap.size w w' := by
  have hz : Blk ((w.alloc (.cells #[.int .i64 e.s, .int .i64 e.q, .int .i64 e.c.kind, .int .i64 e.c.who, .slice ca.Ak e.c.key.length ca.ck, .slice ca.Av e.c.val.length ca.cv, .slice ca.Ao e.c.old.length ca.co] 27)).alloc (.cells #[.int .i64 0, .int .i64 0, .slice none 0 0, .slice none 0 0, .slice none 0 0] 25)) (w.heap.size + 1) 25 #[.int .i64 0, .int .i64 0, .slice none 0 0, .slice none 0 0, .slice none 0 0] := by
    have := Blk.new (w.alloc (.cells #[.int .i64 e.s, .int .i64 e.q, .int .i64 e.c.kind, .int .i64 e.c.who, .slice ca.Ak e.c.key.length ca.ck, .slice ca.Av e.c.val.length ca.cv, .slice ca.Ao e.c.old.length ca.co] 27)) 25 #[.int .i64 0, .int .i64 0, .slice none 0 0, .slice none 0 0, .slice none 0 0]
    rwa [World.size_alloc] at this
  have k0 : Blk ((w.alloc (.cells #[.int .i64 e.s, .int .i64 e.q, .int .i64 e.c.kind, .int .i64 e.c.who, .slice ca.Ak e.c.key.length ca.ck, .slice ca.Av e.c.val.length ca.cv, .slice ca.Ao e.c.old.length ca.co] 27)).alloc (.cells #[.int .i64 0, .int .i64 0, .slice none 0 0, .slice none 0 0, .slice none 0 0] 25)) w.heap.size 27 #[.int .i64 e.s, .int .i64 e.q, .int .i64 e.c.kind, .int .i64 e.c.who, .slice ca.Ak e.c.key.length ca.ck, .slice ca.Av e.c.val.length ca.cv, .slice ca.Ao e.c.old.length ca.co] := (Blk.new _ _ _).alloc _
  have kn : Blk (w.alloc (.cells #[.int .i64 e.s, .int .i64 e.q, .int .i64 e.c.kind, .int .i64 e.c.who, .slice ca.Ak e.c.key.length ca.ck, .slice ca.Av e.c.val.length ca.cv, .slice ca.Ao e.c.old.length ca.co] 27)) w.heap.size 27 #[.int .i64 e.s, .int .i64 e.q, .int .i64 e.c.kind, .int .i64 e.c.who, .slice ca.Ak e.c.key.length ca.ck, .slice ca.Av e.c.val.length ca.cv, .slice ca.Ao e.c.old.length ca.co] := Blk.new _ _ _
  have hb : Below w.heap.size w (((w.alloc (.cells #[.int .i64 e.s, .int .i64 e.q, .int .i64 e.c.kind, .int .i64 e.c.who, .slice ca.Ak e.c.key.length ca.ck, .slice ca.Av e.c.val.length ca.cv, .slice ca.Ao e.c.old.length ca.co] 27)).alloc (.cells #[.int .i64 0, .int .i64 0, .slice none 0 0, .slice none 0 0, .slice none 0 0] 25)).setRow (w.heap.size + 1) #[.int .i64 e.c.kind, .int .i64 e.c.who, .slice ca.Ak e.c.key.length ca.ck, .slice ca.Av e.c.val.length ca.cv, .slice ca.Ao e.c.old.length ca.co]) := below_setRow (((Below.refl _ _).alloc (Nat.le_refl _) _).alloc (by rw [World.size_alloc]; omega) _) (by omega) _
  have k1 := k0.row_other (g := w.heap.size + 1) (by omega) #[.int .i64 e.c.kind, .int .i64 e.c.who, .slice ca.Ak e.c.key.length ca.ck, .slice ca.Av e.c.val.length ca.cv, .slice ca.Ao e.c.old.length ca.co]
  have k2 := hz.row #[.int .i64 e.c.kind, .int .i64 e.c.who, .slice ca.Ak e.c.key.length ca.ck, .slice ca.Av e.c.val.length ca.cv, .slice ca.Ao e.c.old.length ca.co]
  have HZ := Lib.hid hz
  have HKN := Lib.hid kn
  clear hz k0 kn
  have hv : entV ca e = .agg #[.int .i64 e.s, .int .i64 e.q, .int .i64 e.c.kind, .int .i64 e.c.who, .slice ca.Ak e.c.key.length ca.ck, .slice ca.Av e.c.val.length ca.cv, .slice ca.Ao e.c.old.length ca.co] := rfl
  rw [hv]
  clear hv
  go_enter Try.func45, Try.ntmps45
  go_upto_region 2 with (first
    | (refine wpList_load_mid rfl 25 (.tmp 4) rfl w.heap.size 2 rfl [.int .i64 e.c.kind, .int .i64 e.c.who, .slice ca.Ak e.c.key.length ca.ck, .slice ca.Av e.c.val.length ca.cv, .slice ca.Ao e.c.old.length ca.co] _ (fun j v hv => ?_) Try.underlying25 rfl (by kernel_rfl) ?_
       · have q := HKN.out.cell (2 + j)
         rw [q]
         rw [← hv]
         show (#[.int .i64 e.s, .int .i64 e.q, .int .i64 e.c.kind, .int .i64 e.c.who, .slice ca.Ak e.c.key.length ca.ck, .slice ca.Av e.c.val.length ca.cv, .slice ca.Ao e.c.old.length ca.co] : Array Value)[2 + j]? = ([.int .i64 e.c.kind, .int .i64 e.c.who, .slice ca.Ak e.c.key.length ca.ck, .slice ca.Av e.c.val.length ca.cv, .slice ca.Ao e.c.old.length ca.co] : List Value)[j]?
         rcases j with _ | _ | _ | _ | _ | j <;> rfl)
    | (refine wpList_store_row rfl 25 (.tmp 3) (.tmp 5) rfl (w.heap.size + 1) #[.int .i64 e.c.kind, .int .i64 e.c.who, .slice ca.Ak e.c.key.length ca.ck, .slice ca.Av e.c.val.length ca.cv, .slice ca.Ao e.c.old.length ca.co] rfl rfl 25 #[.int .i64 0, .int .i64 0, .slice none 0 0, .slice none 0 0, .slice none 0 0] HZ.out (by kernel_rfl) rfl (by kernel_rfl) ?_)
    | fail)
  generalize ((w.alloc (.cells #[.int .i64 e.s, .int .i64 e.q, .int .i64 e.c.kind, .int .i64 e.c.who, .slice ca.Ak e.c.key.length ca.ck, .slice ca.Av e.c.val.length ca.cv, .slice ca.Ao e.c.old.length ca.co] 27)).alloc (.cells #[.int .i64 0, .int .i64 0, .slice none 0 0, .slice none 0 0, .slice none 0 0] 25)).setRow (w.heap.size + 1) #[.int .i64 e.c.kind, .int .i64 e.c.who, .slice ca.Ak e.c.key.length ca.ck, .slice ca.Av e.c.val.length ca.cv, .slice ca.Ao e.c.old.length ca.co] = wx at hb k1 k2 ⊢
  obtain ⟨g, hg⟩ : ∃ g, w.heap.size = g := ⟨_, rfl⟩
  obtain ⟨g', hg'⟩ : ∃ g', g + 1 = g' := ⟨_, rfl⟩
  rw [hg] at k1 k2 ⊢
  rw [hg'] at k2 ⊢
  rename_i hK
  have HB := Lib.hid hb
  have K1 := Lib.hid k1
  have K2 := Lib.hid k2
  clear hb k1 k2 hg hg' HZ HKN
  refine wp_region_lit ?_
  refine ch_cmp0 (s := 6) (wa := wx) (N := 62) (ps := [(1, Value.pointer (some ⟨g, 0, none⟩)), (3, Value.pointer (some ⟨g', 0, none⟩))]) (b := 1) (g := g) (i := 0) (tm := 27) (ty := 3) (by decide) (by intro q hq; simp only [List.mem_cons, List.not_mem_nil, or_false] at hq; rcases hq with rfl | rfl <;> exact Nat.le_of_ble_eq_true rfl) ⟨rfl, rfl, rfl⟩ ⟨rfl, rfl, rfl⟩ ⟨rfl, rfl, rfl⟩ (by simp) rfl rfl (by intro q hq; simp only [List.mem_cons, List.not_mem_nil, or_false] at hq; rcases hq with rfl | rfl <;> rfl) (Below.refl _ _) ch_fe0 (ch_ldI (K1.out.cell 0)) ch_ggeq ch_ge fun a0 h0 => ?_
  refine ch_cmp (want := true) (s := 9) (gi := 3) (b := 1) (g := g) (i := 0) (tm := 27) (ty := 3) (by decide) (by intro q hq; simp only [List.mem_cons, List.not_mem_nil, or_false] at hq; rcases hq with rfl | rfl <;> exact Nat.le_of_ble_eq_true rfl) rfl ⟨rfl, rfl, rfl⟩ ⟨rfl, rfl, rfl⟩ ⟨rfl, rfl, rfl⟩ ⟨rfl, rfl, rfl⟩ ⟨rfl, rfl, rfl⟩ (.inl ⟨rfl, rfl, rfl⟩) (by simp) h0 ch_fe0 (ch_ldI ((K1.out.below h0.b).cell 0)) ch_gleq ch_le fun a1 w1 h1 => ?_
  refine ch_cmp (want := true) (s := 14) (gi := 8) (b := 1) (g := g) (i := 1) (tm := 27) (ty := 3) (by decide) (by intro q hq; simp only [List.mem_cons, List.not_mem_nil, or_false] at hq; rcases hq with rfl | rfl <;> exact Nat.le_of_ble_eq_true rfl) rfl ⟨rfl, rfl, rfl⟩ ⟨rfl, rfl, rfl⟩ ⟨rfl, rfl, rfl⟩ ⟨rfl, rfl, rfl⟩ ⟨rfl, rfl, rfl⟩ (.inl ⟨rfl, rfl, rfl⟩) (by simp) h1 ch_fe1 (ch_ldI ((K1.out.below h1.b).cell 1)) ch_ggeq ch_ge fun a2 w2 h2 => ?_
  refine ch_cmp (want := true) (s := 19) (gi := 13) (b := 1) (g := g) (i := 1) (tm := 27) (ty := 3) (by decide) (by intro q hq; simp only [List.mem_cons, List.not_mem_nil, or_false] at hq; rcases hq with rfl | rfl <;> exact Nat.le_of_ble_eq_true rfl) rfl ⟨rfl, rfl, rfl⟩ ⟨rfl, rfl, rfl⟩ ⟨rfl, rfl, rfl⟩ ⟨rfl, rfl, rfl⟩ ⟨rfl, rfl, rfl⟩ (.inl ⟨rfl, rfl, rfl⟩) (by simp) h2 ch_fe1 (ch_ldI ((K1.out.below h2.b).cell 1)) ch_gleq ch_le fun a3 w3 h3 => ?_
  refine ch_cmp (want := true) (s := 24) (gi := 18) (b := 3) (g := g') (i := 0) (tm := 25) (ty := 3) (by decide) (by intro q hq; simp only [List.mem_cons, List.not_mem_nil, or_false] at hq; rcases hq with rfl | rfl <;> exact Nat.le_of_ble_eq_true rfl) rfl ⟨rfl, rfl, rfl⟩ ⟨rfl, rfl, rfl⟩ ⟨rfl, rfl, rfl⟩ ⟨rfl, rfl, rfl⟩ ⟨rfl, rfl, rfl⟩ (.inl ⟨rfl, rfl, rfl⟩) (by simp) h3 ch_fc0 (ch_ldI ((K2.out.below h3.b).cell 0)) ch_ggeq ch_ge fun a4 w4 h4 => ?_
  refine ch_cmp (want := true) (s := 29) (gi := 23) (b := 3) (g := g') (i := 0) (tm := 25) (ty := 3) (by decide) (by intro q hq; simp only [List.mem_cons, List.not_mem_nil, or_false] at hq; rcases hq with rfl | rfl <;> exact Nat.le_of_ble_eq_true rfl) rfl ⟨rfl, rfl, rfl⟩ ⟨rfl, rfl, rfl⟩ ⟨rfl, rfl, rfl⟩ ⟨rfl, rfl, rfl⟩ ⟨rfl, rfl, rfl⟩ (.inl ⟨rfl, rfl, rfl⟩) (by simp) h4 ch_fc0 (ch_ldI ((K2.out.below h4.b).cell 0)) ch_gleq ch_le fun a5 w5 h5 => ?_
  refine ch_cmp (want := true) (s := 34) (gi := 28) (b := 3) (g := g') (i := 1) (tm := 25) (ty := 3) (by decide) (by intro q hq; simp only [List.mem_cons, List.not_mem_nil, or_false] at hq; rcases hq with rfl | rfl <;> exact Nat.le_of_ble_eq_true rfl) rfl ⟨rfl, rfl, rfl⟩ ⟨rfl, rfl, rfl⟩ ⟨rfl, rfl, rfl⟩ ⟨rfl, rfl, rfl⟩ ⟨rfl, rfl, rfl⟩ (.inl ⟨rfl, rfl, rfl⟩) (by simp) h5 ch_fc1 (ch_ldI ((K2.out.below h5.b).cell 1)) ch_ggeq ch_ge fun a6 w6 h6 => ?_
  refine ch_cmp (want := true) (s := 39) (gi := 33) (b := 3) (g := g') (i := 1) (tm := 25) (ty := 3) (by decide) (by intro q hq; simp only [List.mem_cons, List.not_mem_nil, or_false] at hq; rcases hq with rfl | rfl <;> exact Nat.le_of_ble_eq_true rfl) rfl ⟨rfl, rfl, rfl⟩ ⟨rfl, rfl, rfl⟩ ⟨rfl, rfl, rfl⟩ ⟨rfl, rfl, rfl⟩ ⟨rfl, rfl, rfl⟩ (.inl ⟨rfl, rfl, rfl⟩) (by simp) h6 ch_fc1 (ch_ldI ((K2.out.below h6.b).cell 1)) ch_gleq ch_le fun a7 w7 h7 => ?_
  refine ch_lenp (want := true) (s := 44) (gi := 38) (b := 3) (g := g') (i := 2) (tm := 25) (ty := 22) (ti := 3) (n := e.c.key.length) (by decide) (by intro q hq; simp only [List.mem_cons, List.not_mem_nil, or_false] at hq; rcases hq with rfl | rfl <;> exact Nat.le_of_ble_eq_true rfl) rfl ⟨rfl, rfl, rfl⟩ ⟨rfl, rfl, rfl⟩ ⟨rfl, rfl, rfl⟩ ⟨rfl, rfl⟩ ⟨rfl, rfl, rfl⟩ ⟨rfl, rfl, rfl⟩ (.inl ⟨rfl, rfl, rfl⟩) (by simp) h7 ch_fc2 (ch_ldX ((K2.out.below h7.b).cell 2)) (fun a' h => ch_lenX rfl h) ch_gleq ch_le fun a8 w8 h8 => ?_
  refine ch_lenp (want := true) (s := 50) (gi := 44) (b := 3) (g := g') (i := 3) (tm := 25) (ty := 22) (ti := 3) (n := e.c.val.length) (by decide) (by intro q hq; simp only [List.mem_cons, List.not_mem_nil, or_false] at hq; rcases hq with rfl | rfl <;> exact Nat.le_of_ble_eq_true rfl) rfl ⟨rfl, rfl, rfl⟩ ⟨rfl, rfl, rfl⟩ ⟨rfl, rfl, rfl⟩ ⟨rfl, rfl⟩ ⟨rfl, rfl, rfl⟩ ⟨rfl, rfl, rfl⟩ (.inl ⟨rfl, rfl, rfl⟩) (by simp) h8 ch_fc3 (ch_ldX ((K2.out.below h8.b).cell 3)) (fun a' h => ch_lenX rfl h) ch_gleq ch_le fun a9 w9 h9 => ?_
  refine ch_lenp (want := true) (s := 56) (gi := 50) (b := 3) (g := g') (i := 4) (tm := 25) (ty := 22) (ti := 3) (n := e.c.old.length) (by decide) (by intro q hq; simp only [List.mem_cons, List.not_mem_nil, or_false] at hq; rcases hq with rfl | rfl <;> exact Nat.le_of_ble_eq_true rfl) rfl ⟨rfl, rfl, rfl⟩ ⟨rfl, rfl, rfl⟩ ⟨rfl, rfl, rfl⟩ ⟨rfl, rfl⟩ ⟨rfl, rfl, rfl⟩ ⟨rfl, rfl, rfl⟩ (.inl ⟨rfl, rfl, rfl⟩) (by simp) h9 ch_fc4 (ch_ldX ((K2.out.below h9.b).cell 4)) (fun a' h => ch_lenX rfl h) ch_gleq ch_le fun a10 w10 h10 => ?_
  refine ch_val (ch_free rfl) (ch_assign rfl (ch_eval h10.r)) ?_
  exact wpList_nil (hK _ _ (wp_ret (bodyPost_ret (results_tmp rfl _ _ _) (ch_put_def.trans h10.d) ⟨ch_end h10.size (by decide) (by unfold En.ok wi cmb; rw [Bool.eq_iff_iff]; simp only [if_true, Bool.and_eq_true, decide_eq_true_eq]; omega), HB.out.trans (h10.b.mono HB.out.size)⟩)))
end Go.Proofs.Ytmdkbmafkglhdaa

