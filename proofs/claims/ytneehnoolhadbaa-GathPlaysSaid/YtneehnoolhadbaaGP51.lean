/- MesgMsgD -/
import Derived.Test.YtneehnoolhadbaaGP25
import Derived.Test.YtneehnoolhadbaaGP50
namespace Go.Proofs.Ytneehnoolhadbaa
open Go.RowKit
set_option linter.unusedVariables false
def datF (m : Int) (i : Nat) : Nat := ((m / 2 ^ (i % 16)) % 256).toNat
def havF (m : Int) (i : Nat) : Int := m / 2 ^ i % 64
def neeF (m : Int) (i : Nat) : Int := m / 2 ^ (i + 3) % 64
def hdOf (n : Int) : Mg := { Mg.zero with kind := n % 8 + 1, frm := n / 8 % 8 % 7, dst := n / 64 % 8 % 7, view := n / 512 % 1024 }
/-- the message of two numbers -/
def mgOf (n m : Int) : Mg :=
  if n % 8 + 1 = 2 then { hdOf n with inst := m % 256, len := m / 256 % 64, has := (m / 16384 % 2 == 1) }
  else if n % 8 + 1 = 3 then { hdOf n with mem := m % 128, src := m / 128 % 8 % 7, len := m / 1024 % 64 }
  else if n % 8 + 1 = 4 then { hdOf n with pos := m % 4096 }
  else if n % 8 + 1 = 5 then { hdOf n with pos := m % 4096, tot := m / 4096 % 4096, data := (List.range (m / 16777216 % 64).toNat).map (datF m) }
  else if n % 8 + 1 = 7 then { hdOf n with hop := m % 1024, seq := m / 1024 % 256, hav := (List.range (m / 262144 % 8).toNat).map (havF m), nee := (List.range (m / 2097152 % 8).toNat).map (neeF m) }
  else if n % 8 + 1 = 8 then { hdOf n with idx := m % 1024, ent := entMax (entOf n (m / 1024 % 64).toNat) }
  else hdOf n
/-- under way: the answer's variable g, the message's g + 1 -/
structure MsSt (w wx : World) (g : Nat) (cs : Array Value) : Prop where
  res : Blk wx g 31 msgZ
  blk : Blk wx (g + 1) 31 cs
  bel : Below w.heap.size w wx
  hg : w.heap.size = g
theorem MsSt.put {w wx : World} {g : Nat} {cs : Array Value} (h : MsSt w wx g cs) (i : Nat) (u : Value) : MsSt w (wx.setCell ⟨g + 1, i, none⟩ u) g (cs.setIfInBounds i u) :=
  ⟨h.res.set_other (by omega), h.blk.set_ i u, h.bel.setCell (by have := h.hg; show w.heap.size ≤ g + 1; omega) u, h.hg⟩
theorem MsSt.below {w wx wy : World} {g : Nat} {cs : Array Value} (h : MsSt w wx g cs) (hb : Below wx.heap.size wx wy) : MsSt w wy g cs :=
  ⟨h.res.below hb, h.blk.below hb, h.bel.trans (hb.mono h.bel.size), h.hg⟩
theorem MsSt.row {w wx wy : World} {g n c size : Nat} {A : Option Addr} {e : TypeId} {xs : List Value} {cs : Array Value} (h : MsSt w wx g cs) (ho : wx.ownsRow w.heap.size e size (.slice A n c) n xs) (h1 : 31 ≠ e) (hg : wx.grownBy wy (Value.slice A n c).ownBlock) : MsSt w wy g cs :=
  ⟨h.res.apart_own ho h1 hg, h.blk.apart_own ho h1 hg, h.bel.grown hg h.bel.size (fun k hk => (ho.lt k hk).1), h.hg⟩
def isB : Value → Bool
  | .int .u8 _ => true
  | _ => false
theorem noB24 {cs : Array Value} (h : cs.toList.all (fun v => !isB v) = true) (_ : cs.size = 24) : NoByte cs := by
  intro j x hj
  have hm : Value.int .u8 (x : Int) ∈ cs.toList := by
    have := Array.mem_of_getElem? hj
    simpa using this
  have := List.all_eq_true.1 h _ hm
  simp [isB] at this
theorem RdC.setRowK {w : World} {B b : Nat} {t : TypeId} {cs c : Array Value} {a : CA} {k : Cm} (h : RdC w B a k) (hb : Blk w b t cs) (hk : NoByte cs) : RdC (w.setRow b c) (w.setRow b c).heap.size a k := by
  have hr : ∀ {A : Option Addr} {n : Nat} {l : List Nat}, Rd w B A n (bv l) → Rd (w.setRow b c) (w.setRow b c).heap.size A n (bv l) := by
    intro A n l h
    have h := h.fit
    refine ⟨h.1, fun hn => ?_⟩
    obtain ⟨g, o, e1, hlt, e3⟩ := h.2 hn
    refine ⟨g, o, e1, by simpa using hlt, fun i hi => ?_⟩
    have hne : g ≠ b := by
      rintro rfl
      have h3 := e3 i hi
      have hlen := h.1
      rw [bv_length] at hlen
      have hv : (bv l)[i]? = some (.int .u8 ((l[i]'(by omega) : Nat) : Int)) := bv_get (by omega)
      rw [hv, hb.cell] at h3
      exact hk _ _ h3
    rw [cell_setRow_other w b c ⟨g, o + i, none⟩ hne]
    exact e3 i hi
  exact ⟨hr h.rk, hr h.rv, hr h.ro⟩
theorem own_apart {w wx wy W : World} {e e' : TypeId} {size size' n n' : Nat} {v v' : Value} {xs xs' : List Value} (h : wx.ownsRow w.heap.size e size v n xs) (ho : Old W v.ownBlock) (h' : wx.ownsRow W.heap.size e' size' v' n' xs') (hg : wx.grownBy wy v'.ownBlock) : wy.ownsRow w.heap.size e size v n xs := by
  refine h.kept hg ?_
  cases hb : v.ownBlock with
  | none => exact .inl rfl
  | some b =>
    right
    intro heq
    have h1 := ho b hb
    have h2 := (h'.lt b heq.symm).1
    omega
end Go.Proofs.Ytneehnoolhadbaa

