/- MesgMsg0 MesgMsgD -/
import Derived.Test.YtmdkbmafkglhdaaK14
import Derived.Test.YtmdkbmafkglhdaaK35
import Derived.Test.YtmdkbmafkglhdaaK40
import Derived.Test.YtmdkbmafkglhdaaK41
namespace Go.Proofs.Ytmdkbmafkglhdaa
open Go.RowKit
set_option linter.unusedVariables false
/-- the entry of a number -/
def entOf (n : Int) (i : Nat) : En := ⟨n / 33554432 % 8 % 6 + 1, (i : Int) / 3 + n / 268435456 % 2 + 1, cmdOf n⟩
set_option maxHeartbeats 2000000 in
set_option maxRecDepth 100000 in
theorem entD_any (n : Int) (i : Nat) (hi : i ≤ 100) (w : World) : Calls Try.prog 22 #[.int .i64 n, .int .i64 (i : Int)] w fun e w' => ∃ ca, e = .returned (entV ca (entOf n i)) ∧ (entOf n i).c.Fits ∧ RdC w' w'.heap.size ca (entOf n i).c ∧ Below w.heap.size w w' := by
  have a7 := and_7
  have a1 := and_1
  have hb0 : Below w.heap.size w (w.alloc (.cells #[.int .i64 0, .int .i64 0, .int .i64 0, .int .i64 0, .slice none 0 0, .slice none 0 0, .slice none 0 0] 27)) := (Below.refl _ _).alloc (Nat.le_refl _) _
  have HB0 := Lib.hid hb0
  have HK := Lib.hid (Blk.new w 27 #[.int .i64 0, .int .i64 0, .int .i64 0, .int .i64 0, .slice none 0 0, .slice none 0 0, .slice none 0 0])
  clear hb0
  go_enter Try.func22, Try.ntmps22
  go_wp2_with fail
  refine (cmd_det n _).mono ?_
  rintro e w1 ⟨ca, rfl, hf, hr, hb⟩
  obtain ⟨c, hc⟩ : ∃ c, cmdOf n = c := ⟨_, rfl⟩
  have HC := Lib.hid hc
  rw [hc] at hf hr ⊢
  clear hc
  have HK1 := Lib.hid (HK.out.below hb)
  have HB1 := Lib.hid (HB0.out.trans (hb.mono HB0.out.size))
  have HR := Lib.hid hr
  have HF := Lib.hid hf
  clear hb hr hf HK HB0
  obtain ⟨x0, x1, x2, x3, x4, x5, x6⟩ := seven HK1.out
  have f0 := HK1.out.frozen 0
  have f1 := HK1.out.frozen 1
  have f2 := HK1.out.frozen 2
  have f3 := HK1.out.frozen 3
  have f4 := HK1.out.frozen 4
  have f5 := HK1.out.frozen 5
  have f6 := HK1.out.frozen 6
  unfold cmdV cmdC
  go_wp2_with fail
  obtain ⟨p1, p2, p3⟩ := put7 HK1.out ca ⟨_, _, c⟩ HR.out
  refine bodyPost_ret (results_cell_row rfl _ _ _ _ _ _ _ rfl p1 Try.underlying27 rfl (by kernel_rfl)) rfl ?_
  have hc := HC.out
  have he : (⟨n / 33554432 % 8 % 6 + 1, (i : Int) / 3 + n / 268435456 % 2 + 1, c⟩ : En) = entOf n i := by unfold entOf; rw [hc]
  have hq : c = (entOf n i).c := by unfold entOf; exact hc.symm
  exact ⟨ca, by rw [← he]; rfl, hq ▸ HF.out, hq ▸ p2, p3 w (Nat.le_refl _) HB1.out⟩
/-- .. with nobody below nought -/
def entMax (e : En) : En := ⟨e.s, e.q, ⟨e.c.kind, if e.c.who < 0 then 0 else e.c.who, e.c.key, e.c.val, e.c.old⟩⟩
theorem tabk_le : ∀ p, p < 4 → 1 ≤ tabk p ∧ tabk p ≤ 9 := by
  intro p hp
  have h : p = 0 ∨ p = 1 ∨ p = 2 ∨ p = 3 := by omega
  rcases h with rfl | rfl | rfl | rfl <;> exact ⟨by decide, by decide⟩
theorem tab16_size : ∀ j, j < 16 → (tab16 j).size ≤ 9 := by
  intro j hj
  have h : j = 0 ∨ j = 1 ∨ j = 2 ∨ j = 3 ∨ j = 4 ∨ j = 5 ∨ j = 6 ∨ j = 7 ∨ j = 8 ∨ j = 9 ∨ j = 10 ∨ j = 11 ∨ j = 12 ∨ j = 13 ∨ j = 14 ∨ j = 15 := by omega
  rcases h with rfl | rfl | rfl | rfl | rfl | rfl | rfl | rfl | rfl | rfl | rfl | rfl | rfl | rfl | rfl | rfl <;> decide
theorem sb_lenM (s : ByteArray) : (sb s).length = s.size := by unfold sb; rw [List.length_map, Array.length_toList]; rfl
theorem entMax_ok (n : Int) (i : Nat) (hi : i ≤ 100) : (entMax (entOf n i)).ok = true := by
  have h1 : (keyOf (n / 2048)).length ≤ 9 := by unfold keyOf; rw [sb_lenM]; exact tab16_size _ (by omega)
  have h2 : (sb (tab8 (n / 32 % 8).toNat)).length ≤ 17 := by rw [sb_lenM]; exact tab8_size _ (by omega)
  have h3 : (sb (tab4 (n / 32768 % 4).toNat)).length ≤ 2 := by rw [sb_lenM]; exact tab4_size _ (by omega)
  have h4 := tabk_le (n / 131072 % 4).toNat (by omega)
  have h5 : (cmdOf n).who ≤ 1073741824 := by unfold cmdOf; simp only []; split <;> omega
  have h6 : 0 ≤ (cmdOf n).kind ∧ (cmdOf n).kind ≤ 1073741824 := by
    unfold cmdOf; simp only []
    split
    · omega
    · split <;> omega
  have k1 : (cmdOf n).key.length ≤ 32 := by unfold cmdOf; simp only []; omega
  have k2 : (cmdOf n).val.length ≤ 32 := by unfold cmdOf; simp only []; omega
  have k3 : (cmdOf n).old.length ≤ 32 := by unfold cmdOf; simp only []; omega
  unfold En.ok entMax entOf
  simp only [Bool.and_eq_true, wi_iff, decide_eq_true_eq]
  refine ⟨by omega, by omega, h6, ?_, k1, k2, k3⟩
  split <;> omega
end Go.Proofs.Ytmdkbmafkglhdaa

namespace Go.Proofs.Ytmdkbmafkglhdaa
open Go.RowKit
set_option linter.unusedVariables false
def datF (m : Int) (i : Nat) : Nat := ((m / 2 ^ (i % 16)) % 256).toNat
def havF (m : Int) (i : Nat) : Int := m / 2 ^ i % 64
def neeF (m : Int) (i : Nat) : Int := m / 2 ^ (i + 3) % 64
def hdOf (n : Int) : Mg := { Mg.zero with kind := n % 8 + 1, frm := n / 8 % 8 % 7, dst := n / 64 % 8 % 7, view := n / 512 % 1024 }
/-- the message of two numbers -/
def mgOf (n m : Int) : Mg :=
  if n % 8 + 1 = 2 then { hdOf n with inst := m % 256, len := m / 256 % 64, has := (m / 16384 % 2 == 1) }
  else if n % 8 + 1 = 3 then { hdOf n with mem := m % 128, src := m / 128 % 8 % 7, len := m / 1024 % 64 }
  else if n % 8 + 1 = 4 then { hdOf n with pos := m % 4096 }
  else if n % 8 + 1 = 5 then { hdOf n with pos := m % 4096, tot := m / 4096 % 4096, data := (List.range (m / 16777216 % 64).toNat).map (datF m) }
  else if n % 8 + 1 = 7 then { hdOf n with hop := m % 1024, seq := m / 1024 % 256, hav := (List.range (m / 262144 % 8).toNat).map (havF m), nee := (List.range (m / 2097152 % 8).toNat).map (neeF m) }
  else if n % 8 + 1 = 8 then { hdOf n with idx := m % 1024, ent := entMax (entOf n (m / 1024 % 64).toNat) }
  else hdOf n
/-- under way: the answer's variable g, the message's g + 1 -/
structure MsSt (w wx : World) (g : Nat) (cs : Array Value) : Prop where
  res : Blk wx g 29 msgZ
  blk : Blk wx (g + 1) 29 cs
  bel : Below w.heap.size w wx
  hg : w.heap.size = g
theorem MsSt.put {w wx : World} {g : Nat} {cs : Array Value} (h : MsSt w wx g cs) (i : Nat) (u : Value) : MsSt w (wx.setCell ⟨g + 1, i, none⟩ u) g (cs.setIfInBounds i u) :=
  ⟨h.res.set_other (by omega), h.blk.set_ i u, h.bel.setCell (by have := h.hg; show w.heap.size ≤ g + 1; omega) u, h.hg⟩
theorem MsSt.below {w wx wy : World} {g : Nat} {cs : Array Value} (h : MsSt w wx g cs) (hb : Below wx.heap.size wx wy) : MsSt w wy g cs :=
  ⟨h.res.below hb, h.blk.below hb, h.bel.trans (hb.mono h.bel.size), h.hg⟩
theorem MsSt.row {w wx wy : World} {g n c size : Nat} {A : Option Addr} {e : TypeId} {xs : List Value} {cs : Array Value} (h : MsSt w wx g cs) (ho : wx.ownsRow w.heap.size e size (.slice A n c) n xs) (h1 : 29 ≠ e) (hg : wx.grownBy wy (Value.slice A n c).ownBlock) : MsSt w wy g cs :=
  ⟨h.res.apart_own ho h1 hg, h.blk.apart_own ho h1 hg, h.bel.grown hg h.bel.size (fun k hk => (ho.lt k hk).1), h.hg⟩
def isB : Value → Bool
  | .int .u8 _ => true
  | _ => false
theorem noB24 {cs : Array Value} (h : cs.toList.all (fun v => !isB v) = true) (_ : cs.size = 24) : NoByte cs := by
  intro j x hj
  have hm : Value.int .u8 (x : Int) ∈ cs.toList := by
    have := Array.mem_of_getElem? hj
    simpa using this
  have := List.all_eq_true.1 h _ hm
  simp [isB] at this
theorem RdC.setRowK {w : World} {B b : Nat} {t : TypeId} {cs c : Array Value} {a : CA} {k : Cm} (h : RdC w B a k) (hb : Blk w b t cs) (hk : NoByte cs) : RdC (w.setRow b c) (w.setRow b c).heap.size a k := by
  have hr : ∀ {A : Option Addr} {n : Nat} {l : List Nat}, Rd w B A n (bv l) → Rd (w.setRow b c) (w.setRow b c).heap.size A n (bv l) := by
    intro A n l h
    have h := h.fit
    refine ⟨h.1, fun hn => ?_⟩
    obtain ⟨g, o, e1, hlt, e3⟩ := h.2 hn
    refine ⟨g, o, e1, by simpa using hlt, fun i hi => ?_⟩
    have hne : g ≠ b := by
      rintro rfl
      have h3 := e3 i hi
      have hlen := h.1
      rw [bv_length] at hlen
      have hv : (bv l)[i]? = some (.int .u8 ((l[i]'(by omega) : Nat) : Int)) := bv_get (by omega)
      rw [hv, hb.cell] at h3
      exact hk _ _ h3
    rw [cell_setRow_other w b c ⟨g, o + i, none⟩ hne]
    exact e3 i hi
  exact ⟨hr h.rk, hr h.rv, hr h.ro⟩
theorem own_apart {w wx wy W : World} {e e' : TypeId} {size size' n n' : Nat} {v v' : Value} {xs xs' : List Value} (h : wx.ownsRow w.heap.size e size v n xs) (ho : Old W v.ownBlock) (h' : wx.ownsRow W.heap.size e' size' v' n' xs') (hg : wx.grownBy wy v'.ownBlock) : wy.ownsRow w.heap.size e size v n xs := by
  refine h.kept hg ?_
  cases hb : v.ownBlock with
  | none => exact .inl rfl
  | some b =>
    right
    intro heq
    have h1 := ho b hb
    have h2 := (h'.lt b heq.symm).1
    omega
end Go.Proofs.Ytmdkbmafkglhdaa

