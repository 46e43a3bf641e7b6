/- MesgMsg0 MesgMsgD MesgMsgM MesgBackMath Ref11Kit -/
import Derived.Test.YtlfkgpllleogoaaMT13
import Derived.Test.YtlfkgpllleogoaaMT14
import Derived.Test.YtlfkgpllleogoaaMT16
import Derived.Test.YtlfkgpllleogoaaMT23
import Derived.Test.YtlfkgpllleogoaaMT26
import Derived.Test.YtlfkgpllleogoaaMT30
import Derived.Test.YtlfkgpllleogoaaMT31
import Derived.Test.YtlfkgpllleogoaaMT36
import Derived.Test.YtlfkgpllleogoaaMT40
namespace Go.Proofs.Ytlfkgpllleogoaa
open Go.RowKit
set_option linter.unusedVariables false
/-- the entry of a number -/
def entOf (n : Int) (i : Nat) : En := ⟨n / 33554432 % 8 % 6 + 1, (i : Int) / 3 + n / 268435456 % 2 + 1, cmdOf n⟩
set_option maxHeartbeats 2000000 in
set_option maxRecDepth 100000 in
theorem entD_any (n : Int) (i : Nat) (hi : i ≤ 100) (w : World) : Calls Try.prog 34 #[.int .i64 n, .int .i64 (i : Int)] w fun e w' => ∃ ca, e = .returned (entV ca (entOf n i)) ∧ (entOf n i).c.Fits ∧ RdC w' w'.heap.size ca (entOf n i).c ∧ Below w.heap.size w w' := by
  have a7 := and_7
  have a1 := and_1
  have hb0 : Below w.heap.size w (w.alloc (.cells #[.int .i64 0, .int .i64 0, .int .i64 0, .int .i64 0, .slice none 0 0, .slice none 0 0, .slice none 0 0] 27)) := (Below.refl _ _).alloc (Nat.le_refl _) _
  have HB0 := Lib.hid hb0
  have HK := Lib.hid (Blk.new w 27 #[.int .i64 0, .int .i64 0, .int .i64 0, .int .i64 0, .slice none 0 0, .slice none 0 0, .slice none 0 0])
  clear hb0
  go_enter Try.func34, Try.ntmps34
  go_wp2_with fail
  refine (cmd_det n _).mono ?_
  rintro e w1 ⟨ca, rfl, hf, hr, hb⟩
  obtain ⟨c, hc⟩ : ∃ c, cmdOf n = c := ⟨_, rfl⟩
  have HC := Lib.hid hc
  rw [hc] at hf hr ⊢
  clear hc
  have HK1 := Lib.hid (HK.out.below hb)
  have HB1 := Lib.hid (HB0.out.trans (hb.mono HB0.out.size))
  have HR := Lib.hid hr
  have HF := Lib.hid hf
  clear hb hr hf HK HB0
  obtain ⟨x0, x1, x2, x3, x4, x5, x6⟩ := seven HK1.out
  have f0 := HK1.out.frozen 0
  have f1 := HK1.out.frozen 1
  have f2 := HK1.out.frozen 2
  have f3 := HK1.out.frozen 3
  have f4 := HK1.out.frozen 4
  have f5 := HK1.out.frozen 5
  have f6 := HK1.out.frozen 6
  unfold cmdV cmdC
  go_wp2_with fail
  obtain ⟨p1, p2, p3⟩ := put7 HK1.out ca ⟨_, _, c⟩ HR.out
  refine bodyPost_ret (results_cell_row rfl _ _ _ _ _ _ _ rfl p1 Try.underlying27 rfl (by kernel_rfl)) rfl ?_
  have hc := HC.out
  have he : (⟨n / 33554432 % 8 % 6 + 1, (i : Int) / 3 + n / 268435456 % 2 + 1, c⟩ : En) = entOf n i := by unfold entOf; rw [hc]
  have hq : c = (entOf n i).c := by unfold entOf; exact hc.symm
  exact ⟨ca, by rw [← he]; rfl, hq ▸ HF.out, hq ▸ p2, p3 w (Nat.le_refl _) HB1.out⟩
/-- .. with nobody below nought -/
def entMax (e : En) : En := ⟨e.s, e.q, ⟨e.c.kind, if e.c.who < 0 then 0 else e.c.who, e.c.key, e.c.val, e.c.old⟩⟩
theorem tabk_le : ∀ p, p < 4 → 1 ≤ tabk p ∧ tabk p ≤ 9 := by
  intro p hp
  have h : p = 0 ∨ p = 1 ∨ p = 2 ∨ p = 3 := by omega
  rcases h with rfl | rfl | rfl | rfl <;> exact ⟨by decide, by decide⟩
theorem tab16_size : ∀ j, j < 16 → (tab16 j).size ≤ 9 := by
  intro j hj
  have h : j = 0 ∨ j = 1 ∨ j = 2 ∨ j = 3 ∨ j = 4 ∨ j = 5 ∨ j = 6 ∨ j = 7 ∨ j = 8 ∨ j = 9 ∨ j = 10 ∨ j = 11 ∨ j = 12 ∨ j = 13 ∨ j = 14 ∨ j = 15 := by omega
  rcases h with rfl | rfl | rfl | rfl | rfl | rfl | rfl | rfl | rfl | rfl | rfl | rfl | rfl | rfl | rfl | rfl <;> decide
theorem sb_lenM (s : ByteArray) : (sb s).length = s.size := by unfold sb; rw [List.length_map, Array.length_toList]; rfl
theorem entMax_ok (n : Int) (i : Nat) (hi : i ≤ 100) : (entMax (entOf n i)).ok = true := by
  have h1 : (keyOf (n / 2048)).length ≤ 9 := by unfold keyOf; rw [sb_lenM]; exact tab16_size _ (by omega)
  have h2 : (sb (tab8 (n / 32 % 8).toNat)).length ≤ 17 := by rw [sb_lenM]; exact tab8_size _ (by omega)
  have h3 : (sb (tab4 (n / 32768 % 4).toNat)).length ≤ 2 := by rw [sb_lenM]; exact tab4_size _ (by omega)
  have h4 := tabk_le (n / 131072 % 4).toNat (by omega)
  have h5 : (cmdOf n).who ≤ 1073741824 := by unfold cmdOf; simp only []; split <;> omega
  have h6 : 0 ≤ (cmdOf n).kind ∧ (cmdOf n).kind ≤ 1073741824 := by
    unfold cmdOf; simp only []
    split
    · omega
    · split <;> omega
  have k1 : (cmdOf n).key.length ≤ 32 := by unfold cmdOf; simp only []; omega
  have k2 : (cmdOf n).val.length ≤ 32 := by unfold cmdOf; simp only []; omega
  have k3 : (cmdOf n).old.length ≤ 32 := by unfold cmdOf; simp only []; omega
  unfold En.ok entMax entOf
  simp only [Bool.and_eq_true, wi_iff, decide_eq_true_eq]
  refine ⟨by omega, by omega, h6, ?_, k1, k2, k3⟩
  split <;> omega
end Go.Proofs.Ytlfkgpllleogoaa

namespace Go.Proofs.Ytlfkgpllleogoaa
open Go.RowKit
set_option linter.unusedVariables false
def datF (m : Int) (i : Nat) : Nat := ((m / 2 ^ (i % 16)) % 256).toNat
def havF (m : Int) (i : Nat) : Int := m / 2 ^ i % 64
def neeF (m : Int) (i : Nat) : Int := m / 2 ^ (i + 3) % 64
def hdOf (n : Int) : Mg := { Mg.zero with kind := n % 8 + 1, frm := n / 8 % 8 % 7, dst := n / 64 % 8 % 7, view := n / 512 % 1024 }
/-- the message of two numbers -/
def mgOf (n m : Int) : Mg :=
  if n % 8 + 1 = 2 then { hdOf n with inst := m % 256, len := m / 256 % 64, has := (m / 16384 % 2 == 1) }
  else if n % 8 + 1 = 3 then { hdOf n with mem := m % 128, src := m / 128 % 8 % 7, len := m / 1024 % 64 }
  else if n % 8 + 1 = 4 then { hdOf n with pos := m % 4096 }
  else if n % 8 + 1 = 5 then { hdOf n with pos := m % 4096, tot := m / 4096 % 4096, data := (List.range (m / 16777216 % 64).toNat).map (datF m) }
  else if n % 8 + 1 = 7 then { hdOf n with hop := m % 1024, seq := m / 1024 % 256, hav := (List.range (m / 262144 % 8).toNat).map (havF m), nee := (List.range (m / 2097152 % 8).toNat).map (neeF m) }
  else if n % 8 + 1 = 8 then { hdOf n with idx := m % 1024, ent := entMax (entOf n (m / 1024 % 64).toNat) }
  else hdOf n
/-- under way: the answer's variable g, the message's g + 1 -/
structure MsSt (w wx : World) (g : Nat) (cs : Array Value) : Prop where
  res : Blk wx g 29 msgZ
  blk : Blk wx (g + 1) 29 cs
  bel : Below w.heap.size w wx
  hg : w.heap.size = g
theorem MsSt.put {w wx : World} {g : Nat} {cs : Array Value} (h : MsSt w wx g cs) (i : Nat) (u : Value) : MsSt w (wx.setCell ⟨g + 1, i, none⟩ u) g (cs.setIfInBounds i u) :=
  ⟨h.res.set_other (by omega), h.blk.set_ i u, h.bel.setCell (by have := h.hg; show w.heap.size ≤ g + 1; omega) u, h.hg⟩
theorem MsSt.below {w wx wy : World} {g : Nat} {cs : Array Value} (h : MsSt w wx g cs) (hb : Below wx.heap.size wx wy) : MsSt w wy g cs :=
  ⟨h.res.below hb, h.blk.below hb, h.bel.trans (hb.mono h.bel.size), h.hg⟩
theorem MsSt.row {w wx wy : World} {g n c size : Nat} {A : Option Addr} {e : TypeId} {xs : List Value} {cs : Array Value} (h : MsSt w wx g cs) (ho : wx.ownsRow w.heap.size e size (.slice A n c) n xs) (h1 : 29 ≠ e) (hg : wx.grownBy wy (Value.slice A n c).ownBlock) : MsSt w wy g cs :=
  ⟨h.res.apart_own ho h1 hg, h.blk.apart_own ho h1 hg, h.bel.grown hg h.bel.size (fun k hk => (ho.lt k hk).1), h.hg⟩
def isB : Value → Bool
  | .int .u8 _ => true
  | _ => false
theorem noB24 {cs : Array Value} (h : cs.toList.all (fun v => !isB v) = true) (_ : cs.size = 24) : NoByte cs := by
  intro j x hj
  have hm : Value.int .u8 (x : Int) ∈ cs.toList := by
    have := Array.mem_of_getElem? hj
    simpa using this
  have := List.all_eq_true.1 h _ hm
  simp [isB] at this
theorem RdC.setRowK {w : World} {B b : Nat} {t : TypeId} {cs c : Array Value} {a : CA} {k : Cm} (h : RdC w B a k) (hb : Blk w b t cs) (hk : NoByte cs) : RdC (w.setRow b c) (w.setRow b c).heap.size a k := by
  have hr : ∀ {A : Option Addr} {n : Nat} {l : List Nat}, Rd w B A n (bv l) → Rd (w.setRow b c) (w.setRow b c).heap.size A n (bv l) := by
    intro A n l h
    have h := h.fit
    refine ⟨h.1, fun hn => ?_⟩
    obtain ⟨g, o, e1, hlt, e3⟩ := h.2 hn
    refine ⟨g, o, e1, by simpa using hlt, fun i hi => ?_⟩
    have hne : g ≠ b := by
      rintro rfl
      have h3 := e3 i hi
      have hlen := h.1
      rw [bv_length] at hlen
      have hv : (bv l)[i]? = some (.int .u8 ((l[i]'(by omega) : Nat) : Int)) := bv_get (by omega)
      rw [hv, hb.cell] at h3
      exact hk _ _ h3
    rw [cell_setRow_other w b c ⟨g, o + i, none⟩ hne]
    exact e3 i hi
  exact ⟨hr h.rk, hr h.rv, hr h.ro⟩
theorem own_apart {w wx wy W : World} {e e' : TypeId} {size size' n n' : Nat} {v v' : Value} {xs xs' : List Value} (h : wx.ownsRow w.heap.size e size v n xs) (ho : Old W v.ownBlock) (h' : wx.ownsRow W.heap.size e' size' v' n' xs') (hg : wx.grownBy wy v'.ownBlock) : wy.ownsRow w.heap.size e size v n xs := by
  refine h.kept hg ?_
  cases hb : v.ownBlock with
  | none => exact .inl rfl
  | some b =>
    right
    intro heq
    have h1 := ho b hb
    have h2 := (h'.lt b heq.symm).1
    omega
end Go.Proofs.Ytlfkgpllleogoaa

namespace Go.Proofs.Ytlfkgpllleogoaa
open Go.RowKit
set_option linter.unusedVariables false
theorem range_all {p : Int → Bool} (N : Nat) (f : Nat → Int) (h : ∀ i, p (f i) = true) : ((List.range N).map f).all p = true := by
  rw [List.all_eq_true]
  intro x hx
  obtain ⟨i, _, rfl⟩ := List.mem_map.1 hx
  exact h i
theorem mgOf_ok (n m : Int) : (mgOf n m).ok = true := by
  have hh : (hdOf n).headOk = true := by
    unfold Mg.headOk hdOf
    simp only [Bool.and_eq_true, wi_iff]
    refine ⟨?_, ?_, ?_⟩ <;> omega
  have hd : ∀ {N : Nat} (f : Nat → Int) (K : Nat), N ≤ K → (∀ i, 0 ≤ f i ∧ f i < 64) → wis K ((List.range N).map f) = true := by
    intro N f K hN hf
    unfold wis
    rw [Bool.and_eq_true]
    exact ⟨by simpa using hN, range_all N f fun i => wi_iff.2 ⟨(hf i).1, by have := (hf i).2; omega⟩⟩
  have hk : 1 ≤ n % 8 + 1 ∧ n % 8 + 1 ≤ 8 := by omega
  unfold mgOf
  by_cases c2 : n % 8 + 1 = 2
  · rw [if_pos c2]
    unfold Mg.ok Mg.tailOk
    have hc : (hdOf n).kind = 2 := c2
    simp only [hc, if_true, Bool.and_eq_true, wi_iff]
    exact ⟨hh, by omega, by omega⟩
  rw [if_neg c2]
  by_cases c3 : n % 8 + 1 = 3
  · rw [if_pos c3]
    unfold Mg.ok Mg.tailOk
    have hc : (hdOf n).kind = 3 := c3
    simp [hc, wi_iff]
    exact ⟨hh, by omega, by omega, by omega⟩
  rw [if_neg c3]
  by_cases c4 : n % 8 + 1 = 4
  · rw [if_pos c4]
    unfold Mg.ok Mg.tailOk
    have hc : (hdOf n).kind = 4 := c4
    simp [hc, wi_iff]
    exact ⟨hh, by omega⟩
  rw [if_neg c4]
  by_cases c5 : n % 8 + 1 = 5
  · rw [if_pos c5]
    unfold Mg.ok Mg.tailOk
    have hc : (hdOf n).kind = 5 := c5
    simp [hc, wi_iff]
    exact ⟨hh, by omega, by omega, by omega⟩
  rw [if_neg c5]
  by_cases c7 : n % 8 + 1 = 7
  · rw [if_pos c7]
    unfold Mg.ok Mg.tailOk
    have hc : (hdOf n).kind = 7 := c7
    simp [hc, wi_iff]
    exact ⟨hh, by omega, by omega, hd _ _ (by omega) (fun i => by unfold havF; omega), hd _ _ (by omega) (fun i => by unfold neeF; omega)⟩
  rw [if_neg c7]
  by_cases c8 : n % 8 + 1 = 8
  · rw [if_pos c8]
    unfold Mg.ok Mg.tailOk
    have hc : (hdOf n).kind = 8 := c8
    simp [hc, wi_iff]
    exact ⟨hh, by omega, entMax_ok n _ (by omega)⟩
  rw [if_neg c8]
  unfold Mg.ok Mg.tailOk
  have hc : (hdOf n).kind = n % 8 + 1 := rfl
  simp only [hc, if_neg c2, if_neg c3, if_neg c4, if_neg c5, if_neg c7, if_neg c8]
  rw [hh]
  simp
  omega
theorem eI_len (z : Int) : (eI z).length ≤ 9 := (Pk.enc_length _).2
theorem En.ok_len' {e : En} (h : e.ok = true) : e.enc.length ≤ 200 := En.ok_len h
theorem En.enc_lt' {e : En} (h : e.c.Wide) : ∀ x ∈ e.enc, x < 256 := En.enc_lt h
theorem datF_lt (m : Int) (i : Nat) : datF m i < 256 := by unfold datF; omega
theorem sbM_lt (s : ByteArray) : ∀ x ∈ sb s, x < 256 := sb_lt s
theorem mgOf_wide (n m : Int) : (mgOf n m).Wide := by
  have hz : (hdOf n).Wide := ⟨⟨by simp [hdOf, Mg.zero], by simp [hdOf, Mg.zero]⟩, by simp [hdOf, Mg.zero], by simp [hdOf, Mg.zero], Cm.Fits.zero.wide⟩
  unfold mgOf
  split
  · exact ⟨hz.d, hz.h, hz.n, hz.c⟩
  split
  · exact ⟨hz.d, hz.h, hz.n, hz.c⟩
  split
  · exact ⟨hz.d, hz.h, hz.n, hz.c⟩
  split
  · refine ⟨⟨by simp; omega, fun x hx => ?_⟩, hz.h, hz.n, hz.c⟩
    obtain ⟨i, _, rfl⟩ := List.mem_map.1 hx
    exact datF_lt m i
  split
  · exact ⟨hz.d, by simp; omega, by simp; omega, hz.c⟩
  split
  · refine ⟨hz.d, hz.h, hz.n, ?_⟩
    have h := entMax_ok n (m / 1024 % 64).toNat (by omega)
    unfold En.ok at h
    simp only [Bool.and_eq_true, decide_eq_true_eq] at h
    obtain ⟨_, _, _, _, h5, h6, h7⟩ := h
    exact ⟨⟨Nat.le_trans h5 (by omega), sbM_lt _⟩, ⟨Nat.le_trans h6 (by omega), sbM_lt _⟩, ⟨Nat.le_trans h7 (by omega), sbM_lt _⟩⟩
  · exact hz
theorem encs_wis {k : Nat} {l : List Int} (h : wis k l = true) : (Pk.encs l).length ≤ 9 * k := by
  unfold wis at h
  rw [Bool.and_eq_true, decide_eq_true_eq] at h
  have := Pk.encs_length l
  omega
theorem Mg.enc_lt {m : Mg} (h : m.ok = true) (hw : m.Wide) : ∀ x ∈ m.enc, x < 256 := by
  have hI : ∀ z, ∀ x ∈ eI z, x < 256 := fun z => Pk.enc_lt (Pk.held_le _)
  have hd : ∀ x ∈ Pk.encB m.data, x < 256 := Pk.encB_lt hw.d.2 (by have := hw.d.1; unfold Pk.top; omega)
  have he : ∀ x ∈ m.ent.enc, x < 256 := En.enc_lt' hw.c
  intro x hx
  unfold Mg.enc at hx
  rw [if_pos h] at hx
  unfold Mg.head Mg.tail at hx
  rcases List.mem_append.1 hx with hx | hx
  · simp only [List.mem_append] at hx
    rcases hx with hx | hx | hx | hx <;> exact hI _ x hx
  · split at hx
    · simp only [List.mem_append] at hx
      rcases hx with hx | hx | hx <;> exact hI _ x hx
    split at hx
    · simp only [List.mem_append] at hx
      rcases hx with hx | hx | hx <;> exact hI _ x hx
    split at hx
    · exact hI _ x hx
    split at hx
    · simp only [List.mem_append] at hx
      rcases hx with hx | hx | hx
      · exact hI _ x hx
      · exact hI _ x hx
      · exact hd x hx
    split at hx
    · simp only [List.mem_append] at hx
      rcases hx with hx | hx | hx | hx | hx | hx
      · exact hI _ x hx
      · exact hI _ x hx
      · exact encN_lt _ x hx
      · exact Pk.encs_lt _ x hx
      · exact encN_lt _ x hx
      · exact Pk.encs_lt _ x hx
    split at hx
    · simp only [List.mem_append] at hx
      rcases hx with hx | hx
      · exact hI _ x hx
      · exact he x hx
    · cases hx
end Go.Proofs.Ytlfkgpllleogoaa

namespace Go.Proofs.Ytlfkgpllleogoaa
open Go.RowKit
set_option linter.unusedVariables false
theorem encB_mem {l : List Nat} {x : Nat} (h : x ∈ l) : x ∈ Pk.encB l := by unfold Pk.encB; exact List.mem_append_right _ h
theorem En.mem_key {e : En} {x : Nat} (h : x ∈ e.c.key) : x ∈ e.enc := by
  have := encB_mem h
  unfold En.enc; simp only [List.mem_append]; exact .inr (.inr (.inr (.inr (.inl this))))
theorem En.mem_val {e : En} {x : Nat} (h : x ∈ e.c.val) : x ∈ e.enc := by
  have := encB_mem h
  unfold En.enc; simp only [List.mem_append]; exact .inr (.inr (.inr (.inr (.inr (.inl this)))))
theorem En.mem_old {e : En} {x : Nat} (h : x ∈ e.c.old) : x ∈ e.enc := by
  have := encB_mem h
  unfold En.enc; simp only [List.mem_append]; exact .inr (.inr (.inr (.inr (.inr (.inr this)))))
theorem En.ok_wide {e : En} (h : e.ok = true) (hb : ∀ x ∈ e.enc, x < 256) : e.c.Wide := by
  unfold En.ok at h
  simp only [Bool.and_eq_true, decide_eq_true_eq] at h
  obtain ⟨_, _, _, _, h5, h6, h7⟩ := h
  exact ⟨⟨by omega, fun x hx => hb x (En.mem_key hx)⟩, ⟨by omega, fun x hx => hb x (En.mem_val hx)⟩, ⟨by omega, fun x hx => hb x (En.mem_old hx)⟩⟩
/-- a message that may be, of bytes -/
theorem Mg.ok_bare_wide {m : Mg} (h : m.ok = true) (hb : ∀ x ∈ m.enc, x < 256) : m.bare.Wide := by
  have hz := Mg.Wide.zero
  have ht : ∀ x ∈ m.tail, x < 256 := fun x hx => hb x (by unfold Mg.enc; rw [if_pos h]; exact List.mem_append_right _ hx)
  have ho : m.tailOk = true := by unfold Mg.ok at h; rw [Bool.and_eq_true] at h; exact h.2
  unfold Mg.tail at ht
  unfold Mg.tailOk at ho
  unfold Mg.bare
  split
  · exact ⟨hz.d, hz.h, hz.n, hz.c⟩
  rename_i k2
  rw [if_neg k2] at ht ho
  split
  · exact ⟨hz.d, hz.h, hz.n, hz.c⟩
  rename_i k3
  rw [if_neg k3] at ht ho
  split
  · exact ⟨hz.d, hz.h, hz.n, hz.c⟩
  rename_i k4
  rw [if_neg k4] at ht ho
  split
  · rename_i k5
    rw [if_pos k5] at ht ho
    simp only [Bool.and_eq_true, decide_eq_true_eq] at ho
    exact ⟨⟨by have := ho.2.2; show m.data.length ≤ 2000000; omega, fun x hx => ht x (by simp only [List.mem_append]; exact .inr (.inr (encB_mem hx)))⟩, hz.h, hz.n, hz.c⟩
  rename_i k5
  rw [if_neg k5] at ht ho
  split
  · rename_i k7
    rw [if_pos k7] at ho
    unfold wis at ho
    simp only [Bool.and_eq_true, decide_eq_true_eq] at ho
    exact ⟨hz.d, by have := ho.2.2.1.1; show m.hav.length ≤ 2000000; omega, by have := ho.2.2.2.1; show m.nee.length ≤ 2000000; omega, hz.c⟩
  rename_i k7
  rw [if_neg k7] at ht ho
  split
  · rename_i k8
    rw [if_pos k8] at ht ho
    simp only [Bool.and_eq_true] at ho
    exact ⟨hz.d, hz.h, hz.n, En.ok_wide ho.2 fun x hx => ht x (List.mem_append_right _ hx)⟩
  · exact ⟨hz.d, hz.h, hz.n, hz.c⟩
/-- what is read of bytes -/
theorem Mg.dec_wide {l : List Nat} (hb : ∀ x ∈ l, x < 256) {m : Mg} (h : Mg.dec l = some m) : m.Wide := by
  obtain ⟨h1, h2, h3⟩ := Mg.dec_canon hb h
  rw [← h3]
  exact Mg.ok_bare_wide h1 (by rw [h2]; exact hb)
/-- a message that may not be told has no bytes; one that may has some -/
theorem Mg.enc_none {m : Mg} (h : m.ok = false) : m.enc = [] := by unfold Mg.enc; rw [h]; simp
end Go.Proofs.Ytlfkgpllleogoaa

namespace Go.Proofs.Ytlfkgpllleogoaa
open Go.RowKit
set_option linter.unusedVariables false
theorem wis_take {k : Nat} {zs : List Int} (h : zs.all (wi 1099511627776) = true) : wis k zs = decide (zs.length ≤ k) := by
  unfold wis; rw [h, Bool.and_true]
theorem wis_no {k j : Nat} {zs : List Int} {z : Int} (h : zs[j]? = some z) (hz : wi 1099511627776 z = false) : wis k zs = false := by
  unfold wis
  rw [Bool.and_eq_false_iff]
  refine .inr ?_
  rw [← Bool.not_eq_true, List.all_eq_true]
  intro hh
  have := hh z (List.mem_of_getElem? h)
  rw [hz] at this
  cases this
set_option maxHeartbeats 1000000 in
set_option maxRecDepth 100000 in
theorem refWithin (w : World) {A : Option Addr} {n c B : Nat} {zs : List Int} (h : Rd w B A n (iv zs)) (hn : n ≤ 2000000) (k : Nat) (hk : k ≤ 100) : Calls Try.prog 64 #[.slice A n c, .int .i64 (k : Int)] w fun e w' => e = .returned (.bool (wis k zs)) ∧ w = w' := by
  have hlen : zs.length = n := by have := h.1; rwa [iv_length] at this
  have H := Lib.hid h
  have HL := Lib.hid hlen
  clear h hlen
  go_enter Try.func64, Try.ntmps64
  go_wp2
  go_loop [5] (fun i => ∃ j : Nat, j ≤ n ∧ i = .int .i64 (j : Int) ∧ Hid (∀ x ∈ zs.take j, wi 1099511627776 x = true)) (fun i => n - (intOf i).toNat)
  case atStart => exact ⟨0, by omega, rfl, Lib.hid (fun x hx => by simp at hx)⟩
  case round =>
    obtain ⟨j, hj, rfl, HW⟩ := hrel
    by_cases hlt : j < n
    · obtain ⟨b, o, rfl, _⟩ := H.out.int_at hlt
      obtain ⟨z, hz⟩ : ∃ z, zs[j]? = some z := ⟨_, List.getElem?_eq_getElem (by have := HL.out; omega)⟩
      have hc := H.out.int_cell hlt hz
      have HZ := Lib.hid hz
      clear hz
      by_cases h0 : z < 0
      · have HR : Hid (wis k zs = false) := Lib.hid (wis_no HZ.out (by rw [← Bool.not_eq_true, wi_iff]; omega))
        go_wp2
        go_ret
        exact ⟨by rw [HR.out]; rfl, rfl⟩
      · by_cases h1 : 1099511627776 < z
        · have HR : Hid (wis k zs = false) := Lib.hid (wis_no HZ.out (by rw [← Bool.not_eq_true, wi_iff]; omega))
          go_wp2
          go_ret
          exact ⟨by rw [HR.out]; rfl, rfl⟩
        · have HZW : Hid (wi 1099511627776 z = true) := Lib.hid (wi_iff.2 ⟨by omega, by omega⟩)
          go_wp2
          go_round
          case rel =>
            refine ⟨j + 1, by omega, by go_num, Lib.hid (fun x hx => ?_)⟩
            rw [List.take_add_one, HZ.out] at hx
            rcases List.mem_append.1 hx with hx | hx
            · exact HW.out x hx
            · simp at hx; rw [hx]; exact HZW.out
          case measure => simp [intOf]; omega
    · have HR : Hid (wis k zs = decide (n ≤ k)) := Lib.hid (by
        have hl := HL.out
        have e : zs.take j = zs := List.take_of_length_le (by omega)
        have hw := HW.out
        rw [e] at hw
        rw [wis_take (List.all_eq_true.2 hw), hl])
      go_wp2
      go_ret
      exact ⟨by rw [HR.out]; rfl, rfl⟩
theorem encs_take {zs : List Int} {j : Nat} {z : Int} (h : zs[j]? = some z) : Pk.encs (zs.take (j + 1)) = Pk.encs (zs.take j) ++ Pk.enc (Pk.held z) := by
  rw [List.take_add_one, h]
  exact Pk.encs_snoc _ _
set_option maxHeartbeats 1000000 in
set_option maxRecDepth 100000 in
theorem refNums {W w : World} {A A' : Option Addr} {c n' c' B' : Nat} {l : List Nat} {zs : List Int} (ho : OwnB W w A l.length c l) (h : Rd w B' A' n' (iv zs)) (hl : l.length ≤ 1000000) (hn : n' ≤ 1000) (hB : Below W.heap.size W w) :
    Calls Try.prog 36 #[.slice A l.length c, .slice A' n' c'] w (GotIn W w (l ++ Pk.encs zs)) := by
  have hlen : zs.length = n' := by have := h.1; rwa [iv_length] at this
  have H := Lib.hid h.fit
  have HL := Lib.hid hlen
  have HO := Lib.hid ho
  have HB := Lib.hid hB
  have HLL := Lib.hid hl
  clear h hlen ho hB hl
  go_enter Try.func36, Try.ntmps36
  go_wp2
  go_loopw [0, 5] (fun b i wr => ∃ (j : Nat) (A1 : Option Addr) (c1 : Nat), j ≤ n' ∧ i = .int .i64 (j : Int) ∧ b = .slice A1 (l ++ Pk.encs (zs.take j)).length c1 ∧ Hid (OwnB W wr A1 (l ++ Pk.encs (zs.take j)).length c1 (l ++ Pk.encs (zs.take j))) ∧ Hid (Below W.heap.size W wr) ∧ Hid (Below w.heap.size w wr)) (fun _ i _ => n' - (intOf i).toNat)
  case atStart => exact ⟨0, A, c, by omega, rfl, by simp [Pk.encs], Lib.hid (by simpa [Pk.encs] using HO.out), HB, Lib.hid (Below.refl _ _)⟩
  case round =>
    obtain ⟨j, A1, c1, hj, rfl, rfl, HO1, HB1, HW1⟩ := hrel
    by_cases hlt : j < n'
    · obtain ⟨b, o, rfl, _⟩ := H.out.int_at hlt
      obtain ⟨z, hz⟩ : ∃ z, zs[j]? = some z := ⟨_, List.getElem?_eq_getElem (by have := HL.out; omega)⟩
      have hc := (H.out.below HW1.out).int_cell hlt hz
      have HE := Lib.hid (encs_take hz)
      clear hz
      have hX : (l ++ Pk.encs (zs.take j)).length ≤ 1000000 + 9 * 1000 := by
        rw [List.length_append]
        have h1 := Pk.encs_length (zs.take j)
        have h2 := HLL.out
        rw [List.length_take] at h1
        omega
      obtain ⟨X, hXX⟩ : ∃ X, l ++ Pk.encs (zs.take j) = X := ⟨_, rfl⟩
      obtain ⟨Y, hY⟩ : ∃ Y, l ++ Pk.encs (zs.take (j + 1)) = Y := ⟨_, rfl⟩
      have he : X ++ Pk.enc (Pk.held z) = Y := by rw [← hXX, ← hY, HE.out, List.append_assoc]
      rw [hXX] at HO1 hX ⊢
      have HCC : Hid (Calls Try.prog 66 #[.slice A1 X.length c1, .int .i64 z] wr (GotIn W wr Y)) := Lib.hid (refput_in he (by unfold Lim; omega) (Rd.own_ HO1.out) HB1.out)
      have HY := Lib.hid hY
      clear hX hXX hY he HE
      go_wp2_with (go_at_call 66; refine HCC.out.mono ?_; rintro e w2 ⟨A2, c2, rfl, ho2, hB2, hb2⟩; have HO2 := Lib.hid ho2; have HB2 := Lib.hid hB2; have HW2 := Lib.hid (HW1.out.trans (hb2.mono HW1.out.size)); clear ho2 hB2 hb2)
      go_roundw
      case rel =>
        refine ⟨j + 1, A2, c2, by omega, by go_num, ?_⟩
        rw [HY.out]
        exact ⟨rfl, HO2, HB2, HW2⟩
      case measure => simp [intOf]; omega
    · have HJ : Hid (zs.take j = zs) := Lib.hid (List.take_of_length_le (by have := HL.out; omega))
      rw [HJ.out] at HO1 ⊢
      obtain ⟨X, hXX⟩ : ∃ X, l ++ Pk.encs zs = X := ⟨_, rfl⟩
      have HXX := Lib.hid hXX
      rw [hXX] at HO1 ⊢
      clear hXX
      go_wp2
      go_ret
      exact ⟨A1, c1, by rw [HXX.out]; rfl, by rw [HXX.out]; exact HO1.out, HB1.out, HW1.out⟩
end Go.Proofs.Ytlfkgpllleogoaa

