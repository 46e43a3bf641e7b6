/- MesgKit StepBN -/
import Derived.Test.YtlfkgpllleogoaaMT01
import Derived.Test.YtlfkgpllleogoaaMT04
import Derived.Test.YtlfkgpllleogoaaMT10
import Derived.Test.YtlfkgpllleogoaaMT11
import Derived.Test.YtlfkgpllleogoaaMT13
import Derived.Test.YtlfkgpllleogoaaMT15
namespace Go.Proofs.Ytlfkgpllleogoaa
open Go.RowKit
set_option linter.unusedVariables false
/-- where a message lies -/
structure GA where
  Ad : Option Addr
  cd : Nat
  Ah : Option Addr
  ch : Nat
  An : Option Addr
  cn : Nat
  c : CA
def CA.zero : CA := ⟨none, 0, none, 0, none, 0⟩
def GA.zero : GA := ⟨none, 0, none, 0, none, 0, CA.zero⟩
def msgC (a : GA) (m : Mg) : Array Value := #[.int .i64 m.kind, .int .i64 m.frm, .int .i64 m.dst, .int .i64 m.view, .int .i64 m.inst, .int .i64 m.len, .bool m.has, .int .i64 m.mem, .int .i64 m.src, .int .i64 m.pos, .int .i64 m.tot, .slice a.Ad m.data.length a.cd, .int .i64 m.hop, .int .i64 m.seq, .slice a.Ah m.hav.length a.ch, .slice a.An m.nee.length a.cn, .int .i64 m.idx, .int .i64 m.ent.s, .int .i64 m.ent.q, .int .i64 m.ent.c.kind, .int .i64 m.ent.c.who, .slice a.c.Ak m.ent.c.key.length a.c.ck, .slice a.c.Av m.ent.c.val.length a.c.cv, .slice a.c.Ao m.ent.c.old.length a.c.co]
def msgV (a : GA) (m : Mg) : Value := .agg (msgC a m)
def msgZ : Array Value := #[.int .i64 0, .int .i64 0, .int .i64 0, .int .i64 0, .int .i64 0, .int .i64 0, .bool false, .int .i64 0, .int .i64 0, .int .i64 0, .int .i64 0, .slice none 0 0, .int .i64 0, .int .i64 0, .slice none 0 0, .slice none 0 0, .int .i64 0, .int .i64 0, .int .i64 0, .int .i64 0, .int .i64 0, .slice none 0 0, .slice none 0 0, .slice none 0 0]
/-- a message that reads -/
structure RdG (w : World) (B : Nat) (a : GA) (m : Mg) : Prop where
  d : Rd w B a.Ad m.data.length (bv m.data)
  h : Rd w B a.Ah m.hav.length (iv m.hav)
  n : Rd w B a.An m.nee.length (iv m.nee)
  c : RdC w B a.c m.ent.c
  hl : m.hav.length ≤ a.ch ∧ a.ch ≤ maxLen
  nl : m.nee.length ≤ a.cn ∧ a.cn ≤ maxLen
/-- a message of the call's own -/
structure OwnG (W w : World) (a : GA) (m : Mg) : Prop where
  d : OwnB W w a.Ad m.data.length a.cd m.data
  h : OwnI W w a.Ah m.hav.length a.ch m.hav
  n : OwnI W w a.An m.nee.length a.cn m.nee
  c : OwnC W w a.c m.ent.c
section
variable {W w w' : World} {B : Nat} {a : GA} {m : Mg} {c : Cm} {ca : CA}
theorem RdG.below (h : RdG w B a m) (hb : Below B w w') : RdG w' B a m := ⟨h.d.below hb, h.h.below hb, h.n.below hb, h.c.below hb, h.hl, h.nl⟩
theorem RdG.fit (h : RdG w B a m) : RdG w w.heap.size a m := ⟨h.d.fit, h.h.fit, h.n.fit, h.c.fit, h.hl, h.nl⟩
theorem RdG.below' (h : RdG w w.heap.size a m) (hb : Below w.heap.size w w') : RdG w' w'.heap.size a m := (h.below hb).fit
theorem OwnC.below (h : OwnC W w ca c) (hb : Below w.heap.size w w') : OwnC W w' ca c := ⟨own_below h.k hb, own_below h.v hb, own_below h.o hb⟩
theorem OwnC.of (hs : W.heap.size ≤ w.heap.size) (h : OwnC w w' ca c) : OwnC W w' ca c := ⟨own_of hs h.k, own_of hs h.v, own_of hs h.o⟩
theorem OwnC.zero (W w : World) : OwnC W w CA.zero ⟨0, 0, [], [], []⟩ := ⟨own_nil _ _, own_nil _ _, own_nil _ _⟩
theorem OwnG.rd (h : OwnG W w a m) : RdG w w.heap.size a m := ⟨Rd.own_ h.d, Rd.own_ h.h, Rd.own_ h.n, h.c.rd, own_cap h.h, own_cap h.n⟩
theorem OwnG.below (h : OwnG W w a m) (hb : Below w.heap.size w w') : OwnG W w' a m := ⟨own_below h.d hb, ownsRow_below h.h hb, ownsRow_below h.n hb, h.c.below hb⟩
theorem OwnG.of (hs : W.heap.size ≤ w.heap.size) (h : OwnG w w' a m) : OwnG W w' a m := ⟨own_of hs h.d, own_of hs h.h, own_of hs h.n, h.c.of hs⟩
theorem OwnG.zero (W w : World) : OwnG W w GA.zero Mg.zero := ⟨own_nil _ _, ownI_nil _ _, ownI_nil _ _, OwnC.zero _ _⟩
theorem RdG.zero (w : World) (B : Nat) : RdG w B GA.zero Mg.zero := ⟨Rd.none_ _ _ _, Rd.none_ _ _ _, Rd.none_ _ _ _, RdC.zero _ _, ⟨Nat.le_refl _, Nat.zero_le _⟩, ⟨Nat.le_refl _, Nat.zero_le _⟩⟩
end
/-- rows of lengths that may be, and bytes -/
structure Cm.Wide (c : Cm) : Prop where
  key : c.key.length ≤ 2000000 ∧ ∀ x ∈ c.key, x < 256
  val : c.val.length ≤ 2000000 ∧ ∀ x ∈ c.val, x < 256
  old : c.old.length ≤ 2000000 ∧ ∀ x ∈ c.old, x < 256
structure Mg.Wide (m : Mg) : Prop where
  d : m.data.length ≤ 2000000 ∧ ∀ x ∈ m.data, x < 256
  h : m.hav.length ≤ 2000000
  n : m.nee.length ≤ 2000000
  c : m.ent.c.Wide
theorem Cm.Fits.wide {c : Cm} (h : c.Fits) : c.Wide := ⟨⟨by have := h.key.1; omega, h.key.2⟩, ⟨by have := h.val.1; omega, h.val.2⟩, ⟨by have := h.old.1; omega, h.old.2⟩⟩
theorem Mg.Wide.zero : Mg.zero.Wide := ⟨⟨by simp [Mg.zero], by simp [Mg.zero]⟩, by simp [Mg.zero], by simp [Mg.zero], Cm.Fits.zero.wide⟩
/-- a message, or none -/
def GotG (W w : World) (r : Option Mg) (en : Ending) (w' : World) : Prop :=
  ∃ a, en = .returned (.tuple #[msgV a (r.getD Mg.zero), .bool r.isSome]) ∧ OwnG W w' a (r.getD Mg.zero) ∧ Below W.heap.size W w' ∧ Below w.heap.size w w'
theorem GotG.of {W w w' : World} {r : Option Mg} {en : Ending} (hB : Below W.heap.size W w) (h : GotG w w r en w') : GotG W w r en w' := by
  obtain ⟨a, h1, h2, h3, h4⟩ := h
  exact ⟨a, h1, h2.of hB.size, hB.trans (h3.mono hB.size), h4⟩
def EncodeC11 : Prop := ∀ {W w : World} {a : GA} {m : Mg} {B : Nat}, m.Wide → RdG w B a m → Below W.heap.size W w → Calls Try.prog 16 #[msgV a m] w (GotIn W w m.enc)
def DecodeC11 : Prop := ∀ {W w : World} {A : Option Addr} {n c B : Nat} {l : List Nat}, l.length ≤ 2000000 → (∀ x ∈ l, x < 256) → Rd w B A n (bv l) → Below W.heap.size W w → Calls Try.prog 19 #[.slice A n c] w (GotG W w (Mg.dec l))
def SameC11 : Prop := ∀ (w : World) {a a' : GA} {m m' : Mg} {B B' : Nat}, m.Wide → m'.Wide → RdG w B a m → RdG w B' a' m' → Calls Try.prog 17 #[msgV a m, msgV a' m'] w fun e w' => e = .returned (.bool (decide (m = m'))) ∧ Below w.heap.size w w'
def AwakeC11 : Prop := ∀ (w : World), Calls Try.prog 13 #[] w fun e w' => e = .returned (.bool true) ∧ Below w.heap.size w w'
theorem EncodeC11.is (h : EncodeC11) {W w : World} {a : GA} {m : Mg} {B : Nat} {l : List Nat} (he : m.enc = l) (hM : m.Wide) (hr : RdG w B a m) (hB : Below W.heap.size W w) : Calls Try.prog 16 #[msgV a m] w (GotIn W w l) := by subst he; exact h hM hr hB
theorem DecodeC11.is (h : DecodeC11) {W w : World} {A : Option Addr} {n c B : Nat} {l : List Nat} {r : Option Mg} (he : Mg.dec l = r) (hl : l.length ≤ 2000000) (hb : ∀ x ∈ l, x < 256) (hr : Rd w B A n (bv l)) (hB : Below W.heap.size W w) : Calls Try.prog 19 #[.slice A n c] w (GotG W w r) := by subst he; exact h hl hb hr hB
theorem SameC11.is (h : SameC11) (w : World) {a a' : GA} {m m' : Mg} {B B' : Nat} {b : Bool} (hb : decide (m = m') = b) (hM : m.Wide) (hM' : m'.Wide) (hr : RdG w B a m) (hr' : RdG w B' a' m') : Calls Try.prog 17 #[msgV a m, msgV a' m'] w fun e w' => e = .returned (.bool b) ∧ Below w.heap.size w w' := by subst hb; exact h w hM hM' hr hr'
end Go.Proofs.Ytlfkgpllleogoaa

namespace Go.Proofs.Ytlfkgpllleogoaa
open Go.RowKit
set_option linter.unusedVariables false
theorem step_append_BN {P : Program} {t e : TypeId} {z : Value} {bytes : Nat} {W w : World} (hT : CellT P t e z bytes) {ops : Array Oper} {o : Oper} {a : Act} {K : Act → World → Prop} {Q : Exit → Act → World → Prop} {E : Prop} (s x : Operand)
    (ho : o.op = .call { callee := .builtin .append, args := #[s, x], argTypes := #[t, t] }) (hg : o.guard = none)
    {A : Option Addr} {n c : Nat} {vs : List Value} (hs : a.eval s = .slice A n c) (hown : w.ownsRow W.heap.size e 1 (.slice A n c) n vs)
    {B : Nat} {A' : Option Addr} {m c' : Nat} {ws : List Value} (hx : a.eval x = .slice A' m c') (hr : Rd w B A' m ws) (h1 : ∀ u ∈ ws, u.oneCell' = true) {N : Nat} (hN : n + m = N) (hnm : N ≤ 1099511627776) (hby : bytes ≤ 64) (hB : Below W.heap.size W w)
    (h : ∀ A2 c2 w2, w2.ownsRow W.heap.size e 1 (.slice A2 N c2) N (vs ++ ws) → Below W.heap.size W w2 → w.grownBy w2 (Value.slice A n c).ownBlock → K (a.put o.dst (.slice A2 N c2)) w2) :
    if Region.wanted o (yielded ops a.tmps) = true then Oper.wp P o a w K Q else E := by
  subst hN
  exact step_append_cells hT s x ho hg hs hown hx hr h1 hnm hby hB h
theorem Rd.rowOther {w w' : World} {B g o n : Nat} {vs : List Value} {row : Option Nat} (h : Rd w B (some ⟨g, o, none⟩) n vs) (hg : w.grownBy w' row) (hne : ∀ k, row = some k → k ≠ g) : Rd w' w'.heap.size (some ⟨g, o, none⟩) n vs := by
  refine Rd.fit (B := w.heap.size) ⟨h.1, fun hn => ?_⟩
  obtain ⟨b', o', e, hb, hc⟩ := h.fit.2 hn
  injection e with e
  injection e with e1 e2
  subst e1 e2
  refine ⟨_, _, rfl, hb, fun i hi => ?_⟩
  rw [← hc i hi]
  exact World.cell?_of_block (hg.block _ hb (fun h => hne _ h.symm rfl))
end Go.Proofs.Ytlfkgpllleogoaa

