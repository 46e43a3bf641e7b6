/- MachEntry MesgMsg0 MesgMsgD MesgMsgM MesgBackMath CmdRow MsgRow -/
import Derived.Test.YtijcbbommaeejaaK01
import Derived.Test.YtijcbbommaeejaaK03
import Derived.Test.YtijcbbommaeejaaK06
import Derived.Test.YtijcbbommaeejaaK07
import Derived.Deep.Slices
import Derived.WideShapes
namespace Go.Proofs.Ytijcbbommaeejaa
open Go.RowKit
set_option linter.unusedVariables false
/-- cells none of which is a byte -/
def NoByte (cs : Array Value) : Prop := ∀ (j x : Nat), cs[j]? ≠ some (.int .u8 (x : Int))
theorem NoByte.set {cs : Array Value} (h : NoByte cs) (i : Nat) {u : Value} (hu : ∀ x : Nat, u ≠ .int .u8 (x : Int)) : NoByte (cs.setIfInBounds i u) := by
  intro j x
  rw [Array.getElem?_setIfInBounds]
  split
  · split
    · intro h2; injection h2 with h2; exact hu x h2
    · simp
  · exact h j x
/-- a row of bytes lies not in a block without bytes -/
theorem Rd.setK {w : World} {B : Nat} {A : Option Addr} {n b i : Nat} {u : Value} {t : TypeId} {cs : Array Value} {l : List Nat} (h : Rd w B A n (bv l)) (hb : Blk w b t cs) (hk : NoByte cs) : Rd (w.setCell ⟨b, i, none⟩ u) (w.setCell ⟨b, i, none⟩ u).heap.size A n (bv l) := by
  rcases Nat.eq_zero_or_pos n with rfl | hn
  · exact ⟨h.1, fun h0 => absurd h0 (by omega)⟩
  · obtain ⟨g, o, rfl, hg, hc⟩ := h.2 hn
    refine h.set_ne ?_
    rintro rfl
    have h0 := hc 0 hn
    rw [hb.cell] at h0
    have hl : 0 < l.length := by have := h.1; rw [bv_length] at this; omega
    have h1 : (bv l)[0]? = some (.int .u8 (l[0] : Nat)) := by unfold bv; simp [List.getElem?_eq_getElem hl]
    rw [h1] at h0
    exact hk _ _ h0
theorem RdC.setK {w : World} {B b i : Nat} {u : Value} {t : TypeId} {cs : Array Value} {a : CA} {c : Cm} (h : RdC w B a c) (hb : Blk w b t cs) (hk : NoByte cs) : RdC (w.setCell ⟨b, i, none⟩ u) (w.setCell ⟨b, i, none⟩ u).heap.size a c :=
  ⟨h.rk.setK hb hk, h.rv.setK hb hk, h.ro.setK hb hk⟩
theorem noInt (z : Int) : ∀ x : Nat, Value.int .i64 z ≠ .int .u8 (x : Int) := fun x h => by cases h
theorem noSlice (A : Option Addr) (n c : Nat) : ∀ x : Nat, Value.slice A n c ≠ .int .u8 (x : Int) := fun x h => by cases h
theorem noByte_ent (s q k w : Int) (A A' A'' : Option Addr) (n c n' c' n'' c'' : Nat) : NoByte #[.int .i64 s, .int .i64 q, .int .i64 k, .int .i64 w, .slice A n c, .slice A' n' c', .slice A'' n'' c''] := by
  intro j x h
  match j with
  | 0 => simp at h
  | 1 => simp at h
  | 2 => simp at h
  | 3 => simp at h
  | 4 => simp at h
  | 5 => simp at h
  | 6 => simp at h
  | j + 7 => simp at h
set_option maxHeartbeats 1000000 in
/-- an entry's variable is written whole -/
theorem put7 {w : World} {b : Nat} {x0 x1 x2 x3 : Int} {A A' A'' : Option Addr} {n c n' c' n'' c'' : Nat} (hk : Blk w b 27 #[.int .i64 x0, .int .i64 x1, .int .i64 x2, .int .i64 x3, .slice A n c, .slice A' n' c', .slice A'' n'' c'']) (a : CA) (e : En) {B : Nat} (hr : RdC w B a e.c) :
    let wy := (((((((w.setCell ⟨b, 0, none⟩ (.int .i64 e.s)).setCell ⟨b, 1, none⟩ (.int .i64 e.q)).setCell ⟨b, 2, none⟩ (.int .i64 e.c.kind)).setCell ⟨b, 3, none⟩ (.int .i64 e.c.who)).setCell ⟨b, 4, none⟩ (.slice a.Ak e.c.key.length a.ck)).setCell ⟨b, 5, none⟩ (.slice a.Av e.c.val.length a.cv)).setCell ⟨b, 6, none⟩ (.slice a.Ao e.c.old.length a.co))
    Blk wy b 27 (entC a e) ∧ RdC wy wy.heap.size a e.c ∧ ∀ W, W.heap.size ≤ b → Below W.heap.size W w → Below W.heap.size W wy := by
  intro wy
  have k0 := noByte_ent x0 x1 x2 x3 A A' A'' n c n' c' n'' c''
  have b1 := hk.set_ 0 (.int .i64 e.s); have k1 := k0.set 0 (noInt e.s)
  have b2 := b1.set_ 1 (.int .i64 e.q); have k2 := k1.set 1 (noInt e.q)
  have b3 := b2.set_ 2 (.int .i64 e.c.kind); have k3 := k2.set 2 (noInt e.c.kind)
  have b4 := b3.set_ 3 (.int .i64 e.c.who); have k4 := k3.set 3 (noInt e.c.who)
  have b5 := b4.set_ 4 (.slice a.Ak e.c.key.length a.ck); have k5 := k4.set 4 (noSlice a.Ak e.c.key.length a.ck)
  have b6 := b5.set_ 5 (.slice a.Av e.c.val.length a.cv); have k6 := k5.set 5 (noSlice a.Av e.c.val.length a.cv)
  have b7 := b6.set_ 6 (.slice a.Ao e.c.old.length a.co)
  have r1 := hr.setK (i := 0) (u := .int .i64 e.s) hk k0
  have r2 := r1.setK (i := 1) (u := .int .i64 e.q) b1 k1
  have r3 := r2.setK (i := 2) (u := .int .i64 e.c.kind) b2 k2
  have r4 := r3.setK (i := 3) (u := .int .i64 e.c.who) b3 k3
  have r5 := r4.setK (i := 4) (u := .slice a.Ak e.c.key.length a.ck) b4 k4
  have r6 := r5.setK (i := 5) (u := .slice a.Av e.c.val.length a.cv) b5 k5
  have r7 := r6.setK (i := 6) (u := .slice a.Ao e.c.old.length a.co) b6 k6
  exact ⟨b7, r7, fun W h1 h2 => ((((((h2.setCell h1 _).setCell h1 _).setCell h1 _).setCell h1 _).setCell h1 _).setCell h1 _).setCell h1 _⟩
end Go.Proofs.Ytijcbbommaeejaa

namespace Go.Proofs.Ytijcbbommaeejaa
open Go.RowKit
set_option linter.unusedVariables false
/-- the entry of a number -/
def entOf (n : Int) (i : Nat) : En := ⟨n / 33554432 % 8 % 6 + 1, (i : Int) / 3 + n / 268435456 % 2 + 1, cmdOf n⟩
set_option maxHeartbeats 2000000 in
set_option maxRecDepth 100000 in
theorem entD_any (n : Int) (i : Nat) (hi : i ≤ 100) (w : World) : Calls Try.prog 18 #[.int .i64 n, .int .i64 (i : Int)] w fun e w' => ∃ ca, e = .returned (entV ca (entOf n i)) ∧ (entOf n i).c.Fits ∧ RdC w' w'.heap.size ca (entOf n i).c ∧ Below w.heap.size w w' := by
  have a7 := and_7
  have a1 := and_1
  have hb0 : Below w.heap.size w (w.alloc (.cells #[.int .i64 0, .int .i64 0, .int .i64 0, .int .i64 0, .slice none 0 0, .slice none 0 0, .slice none 0 0] 27)) := (Below.refl _ _).alloc (Nat.le_refl _) _
  have HB0 := Lib.hid hb0
  have HK := Lib.hid (Blk.new w 27 #[.int .i64 0, .int .i64 0, .int .i64 0, .int .i64 0, .slice none 0 0, .slice none 0 0, .slice none 0 0])
  clear hb0
  go_enter Try.func18, Try.ntmps18
  go_wp2_with fail
  refine (cmd_det n _).mono ?_
  rintro e w1 ⟨ca, rfl, hf, hr, hb⟩
  obtain ⟨c, hc⟩ : ∃ c, cmdOf n = c := ⟨_, rfl⟩
  have HC := Lib.hid hc
  rw [hc] at hf hr ⊢
  clear hc
  have HK1 := Lib.hid (HK.out.below hb)
  have HB1 := Lib.hid (HB0.out.trans (hb.mono HB0.out.size))
  have HR := Lib.hid hr
  have HF := Lib.hid hf
  clear hb hr hf HK HB0
  obtain ⟨x0, x1, x2, x3, x4, x5, x6⟩ := seven HK1.out
  have f0 := HK1.out.frozen 0
  have f1 := HK1.out.frozen 1
  have f2 := HK1.out.frozen 2
  have f3 := HK1.out.frozen 3
  have f4 := HK1.out.frozen 4
  have f5 := HK1.out.frozen 5
  have f6 := HK1.out.frozen 6
  unfold cmdV cmdC
  go_wp2_with fail
  obtain ⟨p1, p2, p3⟩ := put7 HK1.out ca ⟨_, _, c⟩ HR.out
  refine bodyPost_ret (results_cell_row rfl _ _ _ _ _ _ _ rfl p1 Try.underlying27 rfl (by kernel_rfl)) rfl ?_
  have hc := HC.out
  have he : (⟨n / 33554432 % 8 % 6 + 1, (i : Int) / 3 + n / 268435456 % 2 + 1, c⟩ : En) = entOf n i := by unfold entOf; rw [hc]
  have hq : c = (entOf n i).c := by unfold entOf; exact hc.symm
  exact ⟨ca, by rw [← he]; rfl, hq ▸ HF.out, hq ▸ p2, p3 w (Nat.le_refl _) HB1.out⟩
/-- .. with nobody below nought -/
def entMax (e : En) : En := ⟨e.s, e.q, ⟨e.c.kind, if e.c.who < 0 then 0 else e.c.who, e.c.key, e.c.val, e.c.old⟩⟩
theorem tabk_le : ∀ p, p < 4 → 1 ≤ tabk p ∧ tabk p ≤ 9 := by
  intro p hp
  have h : p = 0 ∨ p = 1 ∨ p = 2 ∨ p = 3 := by omega
  rcases h with rfl | rfl | rfl | rfl <;> exact ⟨by decide, by decide⟩
theorem tab16_size : ∀ j, j < 16 → (tab16 j).size ≤ 9 := by
  intro j hj
  have h : j = 0 ∨ j = 1 ∨ j = 2 ∨ j = 3 ∨ j = 4 ∨ j = 5 ∨ j = 6 ∨ j = 7 ∨ j = 8 ∨ j = 9 ∨ j = 10 ∨ j = 11 ∨ j = 12 ∨ j = 13 ∨ j = 14 ∨ j = 15 := by omega
  rcases h with rfl | rfl | rfl | rfl | rfl | rfl | rfl | rfl | rfl | rfl | rfl | rfl | rfl | rfl | rfl | rfl <;> decide
theorem sb_lenM (s : ByteArray) : (sb s).length = s.size := by unfold sb; rw [List.length_map, Array.length_toList]; rfl
theorem entMax_ok (n : Int) (i : Nat) (hi : i ≤ 100) : (entMax (entOf n i)).ok = true := by
  have h1 : (keyOf (n / 2048)).length ≤ 9 := by unfold keyOf; rw [sb_lenM]; exact tab16_size _ (by omega)
  have h2 : (sb (tab8 (n / 32 % 8).toNat)).length ≤ 17 := by rw [sb_lenM]; exact tab8_size _ (by omega)
  have h3 : (sb (tab4 (n / 32768 % 4).toNat)).length ≤ 2 := by rw [sb_lenM]; exact tab4_size _ (by omega)
  have h4 := tabk_le (n / 131072 % 4).toNat (by omega)
  have h5 : (cmdOf n).who ≤ 1073741824 := by unfold cmdOf; simp only []; split <;> omega
  have h6 : 0 ≤ (cmdOf n).kind ∧ (cmdOf n).kind ≤ 1073741824 := by
    unfold cmdOf; simp only []
    split
    · omega
    · split <;> omega
  have k1 : (cmdOf n).key.length ≤ 32 := by unfold cmdOf; simp only []; omega
  have k2 : (cmdOf n).val.length ≤ 32 := by unfold cmdOf; simp only []; omega
  have k3 : (cmdOf n).old.length ≤ 32 := by unfold cmdOf; simp only []; omega
  unfold En.ok entMax entOf
  simp only [Bool.and_eq_true, wi_iff, decide_eq_true_eq]
  refine ⟨by omega, by omega, h6, ?_, k1, k2, k3⟩
  split <;> omega
end Go.Proofs.Ytijcbbommaeejaa

namespace Go.Proofs.Ytijcbbommaeejaa
open Go.RowKit
set_option linter.unusedVariables false
def datF (m : Int) (i : Nat) : Nat := ((m / 2 ^ (i % 16)) % 256).toNat
def havF (m : Int) (i : Nat) : Int := m / 2 ^ i % 64
def neeF (m : Int) (i : Nat) : Int := m / 2 ^ (i + 3) % 64
def hdOf (n : Int) : Mg := { Mg.zero with kind := n % 8 + 1, frm := n / 8 % 8 % 7, dst := n / 64 % 8 % 7, view := n / 512 % 1024 }
/-- the message of two numbers -/
def mgOf (n m : Int) : Mg :=
  if n % 8 + 1 = 2 then { hdOf n with inst := m % 256, len := m / 256 % 64, has := (m / 16384 % 2 == 1) }
  else if n % 8 + 1 = 3 then { hdOf n with mem := m % 128, src := m / 128 % 8 % 7, len := m / 1024 % 64 }
  else if n % 8 + 1 = 4 then { hdOf n with pos := m % 4096 }
  else if n % 8 + 1 = 5 then { hdOf n with pos := m % 4096, tot := m / 4096 % 4096, data := (List.range (m / 16777216 % 64).toNat).map (datF m) }
  else if n % 8 + 1 = 7 then { hdOf n with hop := m % 1024, seq := m / 1024 % 256, hav := (List.range (m / 262144 % 8).toNat).map (havF m), nee := (List.range (m / 2097152 % 8).toNat).map (neeF m) }
  else if n % 8 + 1 = 8 then { hdOf n with idx := m % 1024, ent := entMax (entOf n (m / 1024 % 64).toNat) }
  else hdOf n
/-- under way: the answer's variable g, the message's g + 1 -/
structure MsSt (w wx : World) (g : Nat) (cs : Array Value) : Prop where
  res : Blk wx g 29 msgZ
  blk : Blk wx (g + 1) 29 cs
  bel : Below w.heap.size w wx
  hg : w.heap.size = g
theorem MsSt.put {w wx : World} {g : Nat} {cs : Array Value} (h : MsSt w wx g cs) (i : Nat) (u : Value) : MsSt w (wx.setCell ⟨g + 1, i, none⟩ u) g (cs.setIfInBounds i u) :=
  ⟨h.res.set_other (by omega), h.blk.set_ i u, h.bel.setCell (by have := h.hg; show w.heap.size ≤ g + 1; omega) u, h.hg⟩
theorem MsSt.below {w wx wy : World} {g : Nat} {cs : Array Value} (h : MsSt w wx g cs) (hb : Below wx.heap.size wx wy) : MsSt w wy g cs :=
  ⟨h.res.below hb, h.blk.below hb, h.bel.trans (hb.mono h.bel.size), h.hg⟩
theorem MsSt.row {w wx wy : World} {g n c size : Nat} {A : Option Addr} {e : TypeId} {xs : List Value} {cs : Array Value} (h : MsSt w wx g cs) (ho : wx.ownsRow w.heap.size e size (.slice A n c) n xs) (h1 : 29 ≠ e) (hg : wx.grownBy wy (Value.slice A n c).ownBlock) : MsSt w wy g cs :=
  ⟨h.res.apart_own ho h1 hg, h.blk.apart_own ho h1 hg, h.bel.grown hg h.bel.size (fun k hk => (ho.lt k hk).1), h.hg⟩
def isB : Value → Bool
  | .int .u8 _ => true
  | _ => false
theorem noB24 {cs : Array Value} (h : cs.toList.all (fun v => !isB v) = true) (_ : cs.size = 24) : NoByte cs := by
  intro j x hj
  have hm : Value.int .u8 (x : Int) ∈ cs.toList := by
    have := Array.mem_of_getElem? hj
    simpa using this
  have := List.all_eq_true.1 h _ hm
  simp [isB] at this
theorem RdC.setRowK {w : World} {B b : Nat} {t : TypeId} {cs c : Array Value} {a : CA} {k : Cm} (h : RdC w B a k) (hb : Blk w b t cs) (hk : NoByte cs) : RdC (w.setRow b c) (w.setRow b c).heap.size a k := by
  have hr : ∀ {A : Option Addr} {n : Nat} {l : List Nat}, Rd w B A n (bv l) → Rd (w.setRow b c) (w.setRow b c).heap.size A n (bv l) := by
    intro A n l h
    have h := h.fit
    refine ⟨h.1, fun hn => ?_⟩
    obtain ⟨g, o, e1, hlt, e3⟩ := h.2 hn
    refine ⟨g, o, e1, by simpa using hlt, fun i hi => ?_⟩
    have hne : g ≠ b := by
      rintro rfl
      have h3 := e3 i hi
      have hlen := h.1
      rw [bv_length] at hlen
      have hv : (bv l)[i]? = some (.int .u8 ((l[i]'(by omega) : Nat) : Int)) := bv_get (by omega)
      rw [hv, hb.cell] at h3
      exact hk _ _ h3
    rw [cell_setRow_other w b c ⟨g, o + i, none⟩ hne]
    exact e3 i hi
  exact ⟨hr h.rk, hr h.rv, hr h.ro⟩
theorem own_apart {w wx wy W : World} {e e' : TypeId} {size size' n n' : Nat} {v v' : Value} {xs xs' : List Value} (h : wx.ownsRow w.heap.size e size v n xs) (ho : Old W v.ownBlock) (h' : wx.ownsRow W.heap.size e' size' v' n' xs') (hg : wx.grownBy wy v'.ownBlock) : wy.ownsRow w.heap.size e size v n xs := by
  refine h.kept hg ?_
  cases hb : v.ownBlock with
  | none => exact .inl rfl
  | some b =>
    right
    intro heq
    have h1 := ho b hb
    have h2 := (h'.lt b heq.symm).1
    omega
end Go.Proofs.Ytijcbbommaeejaa

namespace Go.Proofs.Ytijcbbommaeejaa
open Go.RowKit
theorem range_all {p : Int → Bool} (N : Nat) (f : Nat → Int) (h : ∀ i, p (f i) = true) : ((List.range N).map f).all p = true := by
  rw [List.all_eq_true]
  intro x hx
  obtain ⟨i, _, rfl⟩ := List.mem_map.1 hx
  exact h i
set_option linter.unusedVariables false
theorem mgOf_ok (n m : Int) : (mgOf n m).ok = true := by
  have hh : (hdOf n).headOk = true := by
    unfold Mg.headOk hdOf
    simp only [Bool.and_eq_true, wi_iff]
    refine ⟨?_, ?_, ?_⟩ <;> omega
  have hd : ∀ {N : Nat} (f : Nat → Int) (K : Nat), N ≤ K → (∀ i, 0 ≤ f i ∧ f i < 64) → wis K ((List.range N).map f) = true := by
    intro N f K hN hf
    unfold wis
    rw [Bool.and_eq_true]
    exact ⟨by simpa using hN, range_all N f fun i => wi_iff.2 ⟨(hf i).1, by have := (hf i).2; omega⟩⟩
  have hk : 1 ≤ n % 8 + 1 ∧ n % 8 + 1 ≤ 8 := by omega
  unfold mgOf
  by_cases c2 : n % 8 + 1 = 2
  · rw [if_pos c2]
    unfold Mg.ok Mg.tailOk
    have hc : (hdOf n).kind = 2 := c2
    simp only [hc, if_true, Bool.and_eq_true, wi_iff]
    exact ⟨hh, by omega, by omega⟩
  rw [if_neg c2]
  by_cases c3 : n % 8 + 1 = 3
  · rw [if_pos c3]
    unfold Mg.ok Mg.tailOk
    have hc : (hdOf n).kind = 3 := c3
    simp [hc, wi_iff]
    exact ⟨hh, by omega, by omega, by omega⟩
  rw [if_neg c3]
  by_cases c4 : n % 8 + 1 = 4
  · rw [if_pos c4]
    unfold Mg.ok Mg.tailOk
    have hc : (hdOf n).kind = 4 := c4
    simp [hc, wi_iff]
    exact ⟨hh, by omega⟩
  rw [if_neg c4]
  by_cases c5 : n % 8 + 1 = 5
  · rw [if_pos c5]
    unfold Mg.ok Mg.tailOk
    have hc : (hdOf n).kind = 5 := c5
    simp [hc, wi_iff]
    exact ⟨hh, by omega, by omega, by omega⟩
  rw [if_neg c5]
  by_cases c7 : n % 8 + 1 = 7
  · rw [if_pos c7]
    unfold Mg.ok Mg.tailOk
    have hc : (hdOf n).kind = 7 := c7
    simp [hc, wi_iff]
    exact ⟨hh, by omega, by omega, hd _ _ (by omega) (fun i => by unfold havF; omega), hd _ _ (by omega) (fun i => by unfold neeF; omega)⟩
  rw [if_neg c7]
  by_cases c8 : n % 8 + 1 = 8
  · rw [if_pos c8]
    unfold Mg.ok Mg.tailOk
    have hc : (hdOf n).kind = 8 := c8
    simp [hc, wi_iff]
    exact ⟨hh, by omega, entMax_ok n _ (by omega)⟩
  rw [if_neg c8]
  unfold Mg.ok Mg.tailOk
  have hc : (hdOf n).kind = n % 8 + 1 := rfl
  simp only [hc, if_neg c2, if_neg c3, if_neg c4, if_neg c5, if_neg c7, if_neg c8]
  rw [hh]
  simp
  omega
theorem eI_len (z : Int) : (eI z).length ≤ 9 := (Pk.enc_length _).2
theorem En.ok_len' {e : En} (h : e.ok = true) : e.enc.length ≤ 200 := En.ok_len h
theorem En.enc_lt' {e : En} (h : e.c.Wide) : ∀ x ∈ e.enc, x < 256 := En.enc_lt h
theorem datF_lt (m : Int) (i : Nat) : datF m i < 256 := by unfold datF; omega
theorem sbM_lt (s : ByteArray) : ∀ x ∈ sb s, x < 256 := sb_lt s
theorem mgOf_wide (n m : Int) : (mgOf n m).Wide := by
  have hz : (hdOf n).Wide := ⟨⟨by simp [hdOf, Mg.zero], by simp [hdOf, Mg.zero]⟩, by simp [hdOf, Mg.zero], by simp [hdOf, Mg.zero], Cm.Fits.zero.wide⟩
  unfold mgOf
  split
  · exact ⟨hz.d, hz.h, hz.n, hz.c⟩
  split
  · exact ⟨hz.d, hz.h, hz.n, hz.c⟩
  split
  · exact ⟨hz.d, hz.h, hz.n, hz.c⟩
  split
  · refine ⟨⟨by simp; omega, fun x hx => ?_⟩, hz.h, hz.n, hz.c⟩
    obtain ⟨i, _, rfl⟩ := List.mem_map.1 hx
    exact datF_lt m i
  split
  · exact ⟨hz.d, by simp; omega, by simp; omega, hz.c⟩
  split
  · refine ⟨hz.d, hz.h, hz.n, ?_⟩
    have h := entMax_ok n (m / 1024 % 64).toNat (by omega)
    unfold En.ok at h
    simp only [Bool.and_eq_true, decide_eq_true_eq] at h
    obtain ⟨_, _, _, _, h5, h6, h7⟩ := h
    exact ⟨⟨Nat.le_trans h5 (by omega), sbM_lt _⟩, ⟨Nat.le_trans h6 (by omega), sbM_lt _⟩, ⟨Nat.le_trans h7 (by omega), sbM_lt _⟩⟩
  · exact hz
theorem encs_wis {k : Nat} {l : List Int} (h : wis k l = true) : (Pk.encs l).length ≤ 9 * k := by
  unfold wis at h
  rw [Bool.and_eq_true, decide_eq_true_eq] at h
  have := Pk.encs_length l
  omega
theorem Mg.enc_len {m : Mg} (h : m.ok = true) : m.enc.length ≤ 1000 := by
  unfold Mg.enc
  rw [if_pos h]
  unfold Mg.ok at h
  rw [Bool.and_eq_true] at h
  have ht := h.2
  unfold Mg.tailOk at ht
  unfold Mg.head Mg.tail
  have e1 := eI_len m.kind
  have e2 := eI_len m.frm
  have e3 := eI_len m.dst
  have e4 := eI_len m.view
  have e5 := eI_len m.inst
  have e6 := eI_len m.len
  have e7 := eI_len m.has01
  have e8 := eI_len m.mem
  have e9 := eI_len m.src
  have e10 := eI_len m.pos
  have e11 := eI_len m.tot
  have e12 := eI_len m.hop
  have e13 := eI_len m.seq
  have e14 := eI_len m.idx
  have e15 := encB_length m.data
  have e16 := encN_length m.hav.length
  have e17 := encN_length m.nee.length
  simp only [List.length_append]
  split
  · simp only [List.length_append]; omega
  rename_i c2; rw [if_neg c2] at ht
  split
  · simp only [List.length_append]; omega
  rename_i c3; rw [if_neg c3] at ht
  split
  · omega
  rename_i c4; rw [if_neg c4] at ht
  split
  · rename_i c5; rw [if_pos c5] at ht
    simp only [Bool.and_eq_true, decide_eq_true_eq] at ht
    simp only [List.length_append]; omega
  rename_i c5; rw [if_neg c5] at ht
  split
  · rename_i c7; rw [if_pos c7] at ht
    simp only [Bool.and_eq_true] at ht
    have q1 := encs_wis ht.2.2.1
    have q2 := encs_wis ht.2.2.2
    simp only [List.length_append]; omega
  rename_i c7; rw [if_neg c7] at ht
  split
  · rename_i c8; rw [if_pos c8] at ht
    simp only [Bool.and_eq_true] at ht
    have q := En.ok_len' ht.2
    simp only [List.length_append]; omega
  · simp; omega
theorem Mg.enc_lt {m : Mg} (h : m.ok = true) (hw : m.Wide) : ∀ x ∈ m.enc, x < 256 := by
  have hI : ∀ z, ∀ x ∈ eI z, x < 256 := fun z => Pk.enc_lt (Pk.held_le _)
  have hd : ∀ x ∈ Pk.encB m.data, x < 256 := Pk.encB_lt hw.d.2 (by have := hw.d.1; unfold Pk.top; omega)
  have he : ∀ x ∈ m.ent.enc, x < 256 := En.enc_lt' hw.c
  intro x hx
  unfold Mg.enc at hx
  rw [if_pos h] at hx
  unfold Mg.head Mg.tail at hx
  rcases List.mem_append.1 hx with hx | hx
  · simp only [List.mem_append] at hx
    rcases hx with hx | hx | hx | hx <;> exact hI _ x hx
  · split at hx
    · simp only [List.mem_append] at hx
      rcases hx with hx | hx | hx <;> exact hI _ x hx
    split at hx
    · simp only [List.mem_append] at hx
      rcases hx with hx | hx | hx <;> exact hI _ x hx
    split at hx
    · exact hI _ x hx
    split at hx
    · simp only [List.mem_append] at hx
      rcases hx with hx | hx | hx
      · exact hI _ x hx
      · exact hI _ x hx
      · exact hd x hx
    split at hx
    · simp only [List.mem_append] at hx
      rcases hx with hx | hx | hx | hx | hx | hx
      · exact hI _ x hx
      · exact hI _ x hx
      · exact encN_lt _ x hx
      · exact Pk.encs_lt _ x hx
      · exact encN_lt _ x hx
      · exact Pk.encs_lt _ x hx
    split at hx
    · simp only [List.mem_append] at hx
      rcases hx with hx | hx
      · exact hI _ x hx
      · exact he x hx
    · cases hx
end Go.Proofs.Ytijcbbommaeejaa

namespace Go.Proofs.Ytijcbbommaeejaa
open Go.RowKit
set_option linter.unusedVariables false
theorem encB_mem {l : List Nat} {x : Nat} (h : x ∈ l) : x ∈ Pk.encB l := by unfold Pk.encB; exact List.mem_append_right _ h
theorem En.mem_key {e : En} {x : Nat} (h : x ∈ e.c.key) : x ∈ e.enc := by
  have := encB_mem h
  unfold En.enc; simp only [List.mem_append]; exact .inr (.inr (.inr (.inr (.inl this))))
theorem En.mem_val {e : En} {x : Nat} (h : x ∈ e.c.val) : x ∈ e.enc := by
  have := encB_mem h
  unfold En.enc; simp only [List.mem_append]; exact .inr (.inr (.inr (.inr (.inr (.inl this)))))
theorem En.mem_old {e : En} {x : Nat} (h : x ∈ e.c.old) : x ∈ e.enc := by
  have := encB_mem h
  unfold En.enc; simp only [List.mem_append]; exact .inr (.inr (.inr (.inr (.inr (.inr this)))))
theorem En.ok_wide {e : En} (h : e.ok = true) (hb : ∀ x ∈ e.enc, x < 256) : e.c.Wide := by
  unfold En.ok at h
  simp only [Bool.and_eq_true, decide_eq_true_eq] at h
  obtain ⟨_, _, _, _, h5, h6, h7⟩ := h
  exact ⟨⟨by omega, fun x hx => hb x (En.mem_key hx)⟩, ⟨by omega, fun x hx => hb x (En.mem_val hx)⟩, ⟨by omega, fun x hx => hb x (En.mem_old hx)⟩⟩
/-- a message that may be, of bytes -/
theorem Mg.ok_bare_wide {m : Mg} (h : m.ok = true) (hb : ∀ x ∈ m.enc, x < 256) : m.bare.Wide := by
  have hz := Mg.Wide.zero
  have ht : ∀ x ∈ m.tail, x < 256 := fun x hx => hb x (by unfold Mg.enc; rw [if_pos h]; exact List.mem_append_right _ hx)
  have ho : m.tailOk = true := by unfold Mg.ok at h; rw [Bool.and_eq_true] at h; exact h.2
  unfold Mg.tail at ht
  unfold Mg.tailOk at ho
  unfold Mg.bare
  split
  · exact ⟨hz.d, hz.h, hz.n, hz.c⟩
  rename_i k2
  rw [if_neg k2] at ht ho
  split
  · exact ⟨hz.d, hz.h, hz.n, hz.c⟩
  rename_i k3
  rw [if_neg k3] at ht ho
  split
  · exact ⟨hz.d, hz.h, hz.n, hz.c⟩
  rename_i k4
  rw [if_neg k4] at ht ho
  split
  · rename_i k5
    rw [if_pos k5] at ht ho
    simp only [Bool.and_eq_true, decide_eq_true_eq] at ho
    exact ⟨⟨by have := ho.2.2; show m.data.length ≤ 2000000; omega, fun x hx => ht x (by simp only [List.mem_append]; exact .inr (.inr (encB_mem hx)))⟩, hz.h, hz.n, hz.c⟩
  rename_i k5
  rw [if_neg k5] at ht ho
  split
  · rename_i k7
    rw [if_pos k7] at ho
    unfold wis at ho
    simp only [Bool.and_eq_true, decide_eq_true_eq] at ho
    exact ⟨hz.d, by have := ho.2.2.1.1; show m.hav.length ≤ 2000000; omega, by have := ho.2.2.2.1; show m.nee.length ≤ 2000000; omega, hz.c⟩
  rename_i k7
  rw [if_neg k7] at ht ho
  split
  · rename_i k8
    rw [if_pos k8] at ht ho
    simp only [Bool.and_eq_true] at ho
    exact ⟨hz.d, hz.h, hz.n, En.ok_wide ho.2 fun x hx => ht x (List.mem_append_right _ hx)⟩
  · exact ⟨hz.d, hz.h, hz.n, hz.c⟩
/-- what is read of bytes -/
theorem Mg.dec_wide {l : List Nat} (hb : ∀ x ∈ l, x < 256) {m : Mg} (h : Mg.dec l = some m) : m.Wide := by
  obtain ⟨h1, h2, h3⟩ := Mg.dec_canon hb h
  rw [← h3]
  exact Mg.ok_bare_wide h1 (by rw [h2]; exact hb)
/-- a message that was read once is read so again -/
theorem Mg.bare_facts {m : Mg} (h : m.ok = true) (hw : m.Wide) : m.bare.ok = true ∧ m.bare.enc = m.enc ∧ m.bare.bare = m.bare ∧ m.bare.Wide ∧ Mg.dec m.enc = some m.bare := by
  have hd := Mg.dec_enc h
  have hb := Mg.enc_lt h hw
  obtain ⟨h1, h2, h3⟩ := Mg.dec_canon hb hd
  exact ⟨h1, h2, h3, Mg.dec_wide hb hd, hd⟩
theorem Mg.bare_head (m : Mg) : m.bare.kind = m.kind ∧ m.bare.frm = m.frm ∧ m.bare.dst = m.dst ∧ m.bare.view = m.view := by
  unfold Mg.bare
  split
  · exact ⟨rfl, rfl, rfl, rfl⟩
  split
  · exact ⟨rfl, rfl, rfl, rfl⟩
  split
  · exact ⟨rfl, rfl, rfl, rfl⟩
  split
  · exact ⟨rfl, rfl, rfl, rfl⟩
  split
  · exact ⟨rfl, rfl, rfl, rfl⟩
  split
  · exact ⟨rfl, rfl, rfl, rfl⟩
  · exact ⟨rfl, rfl, rfl, rfl⟩
/-- a message that may not be told has no bytes; one that may has some -/
theorem Mg.enc_none {m : Mg} (h : m.ok = false) : m.enc = [] := by unfold Mg.enc; rw [h]; simp
theorem Mg.enc_some {m : Mg} (h : m.ok = true) : m.enc ≠ [] := by
  intro h0
  have h1 := Mg.dec_enc h
  rw [h0] at h1
  have h2 : Mg.dec [] = none := by decide +kernel
  rw [h2] at h1; cases h1
end Go.Proofs.Ytijcbbommaeejaa

namespace Go.Proofs.Ytijcbbommaeejaa
open Go.RowKit
set_option linter.unusedVariables false
/-- bytes in each of a command's rows -/
structure Cm.Bytes (c : Cm) : Prop where
  key : ∀ x ∈ c.key, x < 256
  val : ∀ x ∈ c.val, x < 256
  old : ∀ x ∈ c.old, x < 256
open Go.ChangeShapes Go.WideShapes Go.ChangeAt in
theorem cell_row {H : Type} {enc : TypeId × Value → H} {P : Program} {w : World} {t q : TypeId} {n : Nat} {v : Value} {y : DataW H × List MemPlace} (ht : P.underlying t = some (.slice q)) (hq : P.underlying q = some (.int .u8)) (cq : P.cellsOf q = 1)
    (h : DataW.trod enc P w 0 (fun _ => true) true n t [v] = some y) : ∃ (a : Option Addr) (c : Nat) (l : List Nat), v = .slice a l.length c ∧ (∀ x ∈ l, x < 256) ∧ Rd w w.heap.size a l.length (bv l) := by
  have hrow : ∃ a len cap zs, v = .slice a len cap ∧ IsRow .u8 w a len cap zs := by
    rcases open_ints ht hq cq h with ⟨hcs, _⟩ | ⟨x, l, c, zs, hcs, _, hl, hm, hz, _, hcell, hwz⟩
    · simp at hcs
      subst hcs
      exact ⟨none, 0, 0, [], rfl, .inl ⟨rfl, rfl, rfl, rfl⟩⟩
    · simp at hcs
      subst hcs
      exact ⟨some x, l, c, zs, rfl, .inr ⟨_, rfl, hl, hm, by simpa using hz, hcell, hwz⟩⟩
  obtain ⟨a, len, cap, zs, rfl, hr⟩ := hrow
  obtain ⟨l, h1, h2, _⟩ := hr.rd
  obtain rfl := h2.length
  exact ⟨a, cap, l, rfl, h1, h2⟩
open Go.ChangeShapes Go.WideShapes Go.ChangeAt in
theorem cell_int {H : Type} {enc : TypeId × Value → H} {P : Program} {w : World} {t : TypeId} {n : Nat} {v : Value} {y : DataW H × List MemPlace} (ht : P.underlying t = some (.int .i64))
    (h : DataW.trod enc P w 0 (fun _ => true) true n t [v] = some y) : ∃ z, v = .int .i64 z := by
  obtain ⟨z, h1, _⟩ := DataW.trod_int ht h
  simp at h1
  exact ⟨z, h1⟩
theorem list5 {α : Type} {l : List α} (h : l.length = 5) : ∃ a b c d e, l = [a, b, c, d, e] := by
  match l, h with
  | [a, b, c, d, e], _ => exact ⟨a, b, c, d, e, rfl⟩
end Go.Proofs.Ytijcbbommaeejaa

namespace Go.Proofs.Ytijcbbommaeejaa
open Go.RowKit
set_option linter.unusedVariables false
/-- what a proof's frame tells of a message that came in -/
structure IsMsg (w : World) (a : GA) (m : Mg) : Prop where
  rd : RdG w w.heap.size a m
  d : ∀ x ∈ m.data, x < 256
  c : m.ent.c.Bytes
/-- a row's length, as its datum has it -/
def slen {H : Type} : DataW H → Nat
  | .slice e _ => e.length
  | _ => 0
/-- the datum of a message is as long as its entry's rows -/
def LongG {H : Type} (d : DataW H) (m : Mg) : Prop :=
  ∃ xs p0 p1 c0 c1 dk dv dd, d = .agg xs ∧ DataW.agg [p0, p1, .agg [c0, c1, dk, dv, dd]] ∈ xs ∧ m.ent.c.key.length ≤ slen dk ∧ m.ent.c.val.length ≤ slen dv ∧ m.ent.c.old.length ≤ slen dd
open Go.ChangeShapes Go.WideShapes Go.ChangeAt in
theorem cell_rowS {H : Type} {enc : TypeId × Value → H} {P : Program} {w : World} {t q : TypeId} {n : Nat} {v : Value} {y : DataW H × List MemPlace} (ht : P.underlying t = some (.slice q)) (hq : P.underlying q = some (.int .u8)) (cq : P.cellsOf q = 1)
    (h : DataW.trod enc P w 0 (fun _ => true) true n t [v] = some y) : ∃ (a : Option Addr) (c : Nat) (l : List Nat), v = .slice a l.length c ∧ (∀ x ∈ l, x < 256) ∧ Rd w w.heap.size a l.length (bv l) ∧ l.length ≤ slen y.1 := by
  have hrow : ∃ a len cap zs, v = .slice a len cap ∧ IsRow .u8 w a len cap zs ∧ len ≤ slen y.1 := by
    rcases open_ints ht hq cq h with ⟨hcs, _⟩ | ⟨x, l, c, zs, hcs, _, hl, hm, hz, hy, hcell, hwz⟩
    · simp at hcs
      subst hcs
      exact ⟨none, 0, 0, [], rfl, .inl ⟨rfl, rfl, rfl, rfl⟩, Nat.zero_le _⟩
    · simp at hcs
      subst hcs
      refine ⟨some x, l, c, zs, rfl, .inr ⟨_, rfl, hl, hm, by simpa using hz, hcell, hwz⟩, ?_⟩
      subst hy
      have hz' : zs.length = c := by simpa using hz
      simp [slen, lits]
      omega
  obtain ⟨a, len, cap, zs, rfl, hr, hle⟩ := hrow
  obtain ⟨l, h1, h2, _⟩ := hr.rd
  obtain rfl := h2.length
  exact ⟨a, cap, l, rfl, h1, h2, hle⟩
open Go.ChangeShapes Go.WideShapes Go.ChangeAt in
theorem cell_ints {H : Type} {enc : TypeId × Value → H} {P : Program} {w : World} {t q : TypeId} {n : Nat} {v : Value} {y : DataW H × List MemPlace} (ht : P.underlying t = some (.slice q)) (hq : P.underlying q = some (.int .i64)) (cq : P.cellsOf q = 1)
    (h : DataW.trod enc P w 0 (fun _ => true) true n t [v] = some y) : ∃ (a : Option Addr) (c : Nat) (l : List Int), v = .slice a l.length c ∧ Rd w w.heap.size a l.length (iv l) ∧ l.length ≤ c ∧ c ≤ maxLen := by
  have hrow : ∃ a len cap zs, v = .slice a len cap ∧ IsRow .i64 w a len cap zs := by
    rcases open_ints ht hq cq h with ⟨hcs, _⟩ | ⟨x, l, c, zs, hcs, _, hl, hm, hz, _, hcell, hwz⟩
    · simp at hcs
      subst hcs
      exact ⟨none, 0, 0, [], rfl, .inl ⟨rfl, rfl, rfl, rfl⟩⟩
    · simp at hcs
      subst hcs
      exact ⟨some x, l, c, zs, rfl, .inr ⟨_, rfl, hl, hm, by simpa using hz, hcell, hwz⟩⟩
  obtain ⟨a, len, cap, zs, rfl, hr⟩ := hrow
  obtain ⟨h2, hl, h4, h5⟩ := hr.ints
  refine ⟨a, cap, zs.take len, by rw [hl], by rw [hl]; exact h2, by rw [hl]; exact h4, h5⟩
open Go.ChangeShapes Go.WideShapes Go.ChangeAt in
theorem cell_bool {H : Type} {enc : TypeId × Value → H} {P : Program} {w : World} {t : TypeId} {n : Nat} {v : Value} {y : DataW H × List MemPlace} (ht : P.underlying t = some .bool)
    (h : DataW.trod enc P w 0 (fun _ => true) true n t [v] = some y) : ∃ b, v = .bool b := by
  obtain ⟨z, h1, _⟩ := DataW.trod_bool ht h
  simp at h1
  exact ⟨z, h1⟩
theorem list24 {α : Type} {l : List α} (h : l.length = 24) : ∃ x0 x1 x2 x3 x4 x5 x6 x7 x8 x9 x10 x11 x12 x13 x14 x15 x16 x17 x18 x19 x20 x21 x22 x23, l = [x0, x1, x2, x3, x4, x5, x6, x7, x8, x9, x10, x11, x12, x13, x14, x15, x16, x17, x18, x19, x20, x21, x22, x23] := by
  match l, h with
  | [x0, x1, x2, x3, x4, x5, x6, x7, x8, x9, x10, x11, x12, x13, x14, x15, x16, x17, x18, x19, x20, x21, x22, x23], _ => exact ⟨x0, x1, x2, x3, x4, x5, x6, x7, x8, x9, x10, x11, x12, x13, x14, x15, x16, x17, x18, x19, x20, x21, x22, x23, rfl⟩
theorem list18 {α : Type} {l : List α} (h : l.length = 18) : ∃ x0 x1 x2 x3 x4 x5 x6 x7 x8 x9 x10 x11 x12 x13 x14 x15 x16 x17, l = [x0, x1, x2, x3, x4, x5, x6, x7, x8, x9, x10, x11, x12, x13, x14, x15, x16, x17] := by
  match l, h with
  | [x0, x1, x2, x3, x4, x5, x6, x7, x8, x9, x10, x11, x12, x13, x14, x15, x16, x17], _ => exact ⟨x0, x1, x2, x3, x4, x5, x6, x7, x8, x9, x10, x11, x12, x13, x14, x15, x16, x17, rfl⟩
theorem list3 {α : Type} {l : List α} (h : l.length = 3) : ∃ x0 x1 x2, l = [x0, x1, x2] := by
  match l, h with
  | [x0, x1, x2], _ => exact ⟨x0, x1, x2, rfl⟩
open Go.ChangeShapes Go.WideShapes Go.ChangeAt in
theorem trod_part {H : Type} {enc : TypeId × Value → H} {P : Program} {w : World} {t : TypeId} {n o c : Nat} {vs us : List Value} {y : Option (DataW H × List MemPlace)} (h : DataW.trod enc P w 0 (fun _ => true) true n t ((vs.drop o).take (P.cellsOf t)) = y) (hc : P.cellsOf t = c) (hu : (vs.drop o).take c = us) : DataW.trod enc P w 0 (fun _ => true) true n t us = y := by
  subst hu hc; exact h
set_option maxHeartbeats 1000000 in
open Go.ChangeShapes Go.WideShapes Go.ChangeAt in
theorem isMsg {H : Type} {enc : TypeId × Value → H} {w : World} {r : Reach} {b0 : Nat} {v : Value} {d : DataW H} {ps : List MemPlace} (hv : Value.okWide Try.prog w r b0 29 v) (h : DataW.Trod enc Try.prog w 0 (fun _ => true) true 29 v d ps) : ∃ a m, v = msgV a m ∧ IsMsg w a m ∧ LongG d m := by
  have cI : (Try.prog).cellsOf 3 = 1 := by kernel_rfl
  have cB : (Try.prog).cellsOf 4 = 1 := by kernel_rfl
  have cR : (Try.prog).cellsOf 23 = 1 := by kernel_rfl
  have cN : (Try.prog).cellsOf 22 = 1 := by kernel_rfl
  have cE : (Try.prog).cellsOf 27 = 7 := by kernel_rfl
  have cC : (Try.prog).cellsOf 25 = 5 := by kernel_rfl
  have cM : (Try.prog).cellsOf 29 = 24 := by kernel_rfl
  have cU : (Try.prog).cellsOf 5 = 1 := by kernel_rfl
  obtain ⟨cs, rfl, hsz⟩ := okWide_struct Try.underlying29 hv
  rw [cM] at hsz
  obtain ⟨fuel, hf⟩ := h
  obtain ⟨xs, k, _, hx0, _, hxl, hfd⟩ := DataW.trod_struct Try.underlying29 hf
  obtain ⟨cs⟩ := cs
  obtain ⟨v0, v1, v2, v3, v4, v5, v6, v7, v8, v9, v10, v11, v12, v13, v14, v15, v16, v17, v18, v19, v20, v21, v22, v23, rfl⟩ := list24 (l := cs) (by simpa using hsz)
  obtain ⟨y0, y1, y2, y3, y4, y5, y6, y7, y8, y9, y10, y11, y12, y13, y14, y15, y16, y17, rfl⟩ := list18 (l := xs) (by simpa using hxl)
  have e0 := trod_part (t := 3) (o := 0) (us := [v0]) (hfd 0 _ rfl) cI rfl
  obtain ⟨z0, rfl⟩ := cell_int Try.underlying3 (v := v0) (y := y0) e0
  have e1 := trod_part (t := 3) (o := 1) (us := [v1]) (hfd 1 _ rfl) cI rfl
  obtain ⟨z1, rfl⟩ := cell_int Try.underlying3 (v := v1) (y := y1) e1
  have e2 := trod_part (t := 3) (o := 2) (us := [v2]) (hfd 2 _ rfl) cI rfl
  obtain ⟨z2, rfl⟩ := cell_int Try.underlying3 (v := v2) (y := y2) e2
  have e3 := trod_part (t := 3) (o := 3) (us := [v3]) (hfd 3 _ rfl) cI rfl
  obtain ⟨z3, rfl⟩ := cell_int Try.underlying3 (v := v3) (y := y3) e3
  have e4 := trod_part (t := 3) (o := 4) (us := [v4]) (hfd 4 _ rfl) cI rfl
  obtain ⟨z4, rfl⟩ := cell_int Try.underlying3 (v := v4) (y := y4) e4
  have e5 := trod_part (t := 3) (o := 5) (us := [v5]) (hfd 5 _ rfl) cI rfl
  obtain ⟨z5, rfl⟩ := cell_int Try.underlying3 (v := v5) (y := y5) e5
  have e6 := trod_part (t := 4) (o := 6) (us := [v6]) (hfd 6 _ rfl) cB rfl
  obtain ⟨z6, rfl⟩ := cell_bool Try.underlying4 (v := v6) (y := y6) e6
  have e7 := trod_part (t := 3) (o := 7) (us := [v7]) (hfd 7 _ rfl) cI rfl
  obtain ⟨z7, rfl⟩ := cell_int Try.underlying3 (v := v7) (y := y7) e7
  have e8 := trod_part (t := 3) (o := 8) (us := [v8]) (hfd 8 _ rfl) cI rfl
  obtain ⟨z8, rfl⟩ := cell_int Try.underlying3 (v := v8) (y := y8) e8
  have e9 := trod_part (t := 3) (o := 9) (us := [v9]) (hfd 9 _ rfl) cI rfl
  obtain ⟨z9, rfl⟩ := cell_int Try.underlying3 (v := v9) (y := y9) e9
  have e10 := trod_part (t := 3) (o := 10) (us := [v10]) (hfd 10 _ rfl) cI rfl
  obtain ⟨z10, rfl⟩ := cell_int Try.underlying3 (v := v10) (y := y10) e10
  have e11 := trod_part (t := 23) (o := 11) (us := [v11]) (hfd 11 _ rfl) cR rfl
  obtain ⟨A11, k11, l11, rfl, b11, r11⟩ := cell_row Try.underlying23 Try.underlying5 cU (v := v11) (y := y11) e11
  have e12 := trod_part (t := 3) (o := 12) (us := [v12]) (hfd 12 _ rfl) cI rfl
  obtain ⟨z12, rfl⟩ := cell_int Try.underlying3 (v := v12) (y := y12) e12
  have e13 := trod_part (t := 3) (o := 13) (us := [v13]) (hfd 13 _ rfl) cI rfl
  obtain ⟨z13, rfl⟩ := cell_int Try.underlying3 (v := v13) (y := y13) e13
  have e14 := trod_part (t := 22) (o := 14) (us := [v14]) (hfd 14 _ rfl) cN rfl
  obtain ⟨A14, k14, l14, rfl, r14, c14⟩ := cell_ints Try.underlying22 Try.underlying3 cI (v := v14) (y := y14) e14
  have e15 := trod_part (t := 22) (o := 15) (us := [v15]) (hfd 15 _ rfl) cN rfl
  obtain ⟨A15, k15, l15, rfl, r15, c15⟩ := cell_ints Try.underlying22 Try.underlying3 cI (v := v15) (y := y15) e15
  have e16 := trod_part (t := 3) (o := 16) (us := [v16]) (hfd 16 _ rfl) cI rfl
  obtain ⟨z16, rfl⟩ := cell_int Try.underlying3 (v := v16) (y := y16) e16
  have e17 := trod_part (t := 27) (o := 17) (us := [v17, v18, v19, v20, v21, v22, v23]) (hfd 17 _ rfl) cE rfl
  clear hfd
  obtain ⟨xs, k', _, hx1, _, hxl, hfd⟩ := DataW.trod_struct Try.underlying27 (x := y17) e17
  obtain ⟨s0, s1, s2, rfl⟩ := list3 (l := xs) (by simpa using hxl)
  have g0 := trod_part (t := 3) (o := 0) (us := [v17]) (hfd 0 _ rfl) cI rfl
  have g1 := trod_part (t := 3) (o := 1) (us := [v18]) (hfd 1 _ rfl) cI rfl
  have g2 := trod_part (t := 25) (o := 2) (us := [v19, v20, v21, v22, v23]) (hfd 2 _ rfl) cC rfl
  clear hfd
  obtain ⟨z17, rfl⟩ := cell_int Try.underlying3 (v := v17) (y := s0) g0
  obtain ⟨z18, rfl⟩ := cell_int Try.underlying3 (v := v18) (y := s1) g1
  obtain ⟨xs, k'', _, hx2, _, hxl, hfd⟩ := DataW.trod_struct Try.underlying25 (x := s2) g2
  obtain ⟨t0, t1, t2, t3, t4, rfl⟩ := list5 (l := xs) (by simpa using hxl)
  have j0 := trod_part (t := 3) (o := 0) (us := [v19]) (hfd 0 _ rfl) cI rfl
  have j1 := trod_part (t := 3) (o := 1) (us := [v20]) (hfd 1 _ rfl) cI rfl
  have j2 := trod_part (t := 23) (o := 2) (us := [v21]) (hfd 2 _ rfl) cR rfl
  have j3 := trod_part (t := 23) (o := 3) (us := [v22]) (hfd 3 _ rfl) cR rfl
  have j4 := trod_part (t := 23) (o := 4) (us := [v23]) (hfd 4 _ rfl) cR rfl
  obtain ⟨z19, rfl⟩ := cell_int Try.underlying3 (v := v19) (y := t0) j0
  obtain ⟨z20, rfl⟩ := cell_int Try.underlying3 (v := v20) (y := t1) j1
  obtain ⟨A21, k21, l21, rfl, b21, r21, n21⟩ := cell_rowS Try.underlying23 Try.underlying5 cU (v := v21) (y := t2) j2
  obtain ⟨A22, k22, l22, rfl, b22, r22, n22⟩ := cell_rowS Try.underlying23 Try.underlying5 cU (v := v22) (y := t3) j3
  obtain ⟨A23, k23, l23, rfl, b23, r23, n23⟩ := cell_rowS Try.underlying23 Try.underlying5 cU (v := v23) (y := t4) j4
  refine ⟨⟨A11, k11, A14, k14, A15, k15, ⟨A21, k21, A22, k22, A23, k23⟩⟩, ⟨z0, z1, z2, z3, z4, z5, z6, z7, z8, z9, z10, l11, z12, z13, l14, l15, z16, ⟨z17, z18, ⟨z19, z20, l21, l22, l23⟩⟩⟩, rfl, ⟨⟨r11, r14, r15, ⟨r21, r22, r23⟩, c14, c15⟩, b11, ⟨b21, b22, b23⟩⟩, ?_⟩
  subst hx2
  subst hx1
  injection hx0 with hx0
  exact ⟨_, s0.1, s1.1, t0.1, t1.1, t2.1, t3.1, t4.1, hx0, by simp, n21, n22, n23⟩
end Go.Proofs.Ytijcbbommaeejaa

