/- MesgKit -/
import Derived.Test.YtneehnoolhadbaaGP03
import Derived.Test.YtneehnoolhadbaaGP04
import Derived.Test.YtneehnoolhadbaaGP17
import Derived.Test.YtneehnoolhadbaaGP19
import Derived.Test.YtneehnoolhadbaaGP20
import Derived.Test.YtneehnoolhadbaaGP21
import Derived.Deep.RegionHeld3
namespace Go.Proofs.Ytneehnoolhadbaa
open Go.RowKit
set_option linter.unusedVariables false
/-- where a message lies -/
structure GA where
  Ad : Option Addr
  cd : Nat
  Ah : Option Addr
  ch : Nat
  An : Option Addr
  cn : Nat
  c : CA
def CA.zero : CA := ⟨none, 0, none, 0, none, 0⟩
def GA.zero : GA := ⟨none, 0, none, 0, none, 0, CA.zero⟩
def msgC (a : GA) (m : Mg) : Array Value := #[.int .i64 m.kind, .int .i64 m.frm, .int .i64 m.dst, .int .i64 m.view, .int .i64 m.inst, .int .i64 m.len, .bool m.has, .int .i64 m.mem, .int .i64 m.src, .int .i64 m.pos, .int .i64 m.tot, .slice a.Ad m.data.length a.cd, .int .i64 m.hop, .int .i64 m.seq, .slice a.Ah m.hav.length a.ch, .slice a.An m.nee.length a.cn, .int .i64 m.idx, .int .i64 m.ent.s, .int .i64 m.ent.q, .int .i64 m.ent.c.kind, .int .i64 m.ent.c.who, .slice a.c.Ak m.ent.c.key.length a.c.ck, .slice a.c.Av m.ent.c.val.length a.c.cv, .slice a.c.Ao m.ent.c.old.length a.c.co]
def msgV (a : GA) (m : Mg) : Value := .agg (msgC a m)
def msgZ : Array Value := #[.int .i64 0, .int .i64 0, .int .i64 0, .int .i64 0, .int .i64 0, .int .i64 0, .bool false, .int .i64 0, .int .i64 0, .int .i64 0, .int .i64 0, .slice none 0 0, .int .i64 0, .int .i64 0, .slice none 0 0, .slice none 0 0, .int .i64 0, .int .i64 0, .int .i64 0, .int .i64 0, .int .i64 0, .slice none 0 0, .slice none 0 0, .slice none 0 0]
/-- a message that reads -/
structure RdG (w : World) (B : Nat) (a : GA) (m : Mg) : Prop where
  d : Rd w B a.Ad m.data.length (bv m.data)
  h : Rd w B a.Ah m.hav.length (iv m.hav)
  n : Rd w B a.An m.nee.length (iv m.nee)
  c : RdC w B a.c m.ent.c
  hl : m.hav.length ≤ a.ch ∧ a.ch ≤ maxLen
  nl : m.nee.length ≤ a.cn ∧ a.cn ≤ maxLen
section
variable {W w w' : World} {B : Nat} {a : GA} {m : Mg} {c : Cm} {ca : CA}
theorem RdG.below (h : RdG w B a m) (hb : Below B w w') : RdG w' B a m := ⟨h.d.below hb, h.h.below hb, h.n.below hb, h.c.below hb, h.hl, h.nl⟩
theorem RdG.fit (h : RdG w B a m) : RdG w w.heap.size a m := ⟨h.d.fit, h.h.fit, h.n.fit, h.c.fit, h.hl, h.nl⟩
theorem RdG.zero (w : World) (B : Nat) : RdG w B GA.zero Mg.zero := ⟨Rd.none_ _ _ _, Rd.none_ _ _ _, Rd.none_ _ _ _, RdC.zero _ _, ⟨Nat.le_refl _, Nat.zero_le _⟩, ⟨Nat.le_refl _, Nat.zero_le _⟩⟩
end
/-- rows of lengths that may be, and bytes -/
structure Cm.Wide (c : Cm) : Prop where
  key : c.key.length ≤ 2000000 ∧ ∀ x ∈ c.key, x < 256
  val : c.val.length ≤ 2000000 ∧ ∀ x ∈ c.val, x < 256
  old : c.old.length ≤ 2000000 ∧ ∀ x ∈ c.old, x < 256
structure Mg.Wide (m : Mg) : Prop where
  d : m.data.length ≤ 2000000 ∧ ∀ x ∈ m.data, x < 256
  h : m.hav.length ≤ 2000000
  n : m.nee.length ≤ 2000000
  c : m.ent.c.Wide
theorem Cm.Fits.wide {c : Cm} (h : c.Fits) : c.Wide := ⟨⟨by have := h.key.1; omega, h.key.2⟩, ⟨by have := h.val.1; omega, h.val.2⟩, ⟨by have := h.old.1; omega, h.old.2⟩⟩
theorem Mg.Wide.zero : Mg.zero.Wide := ⟨⟨by simp [Mg.zero], by simp [Mg.zero]⟩, by simp [Mg.zero], by simp [Mg.zero], Cm.Fits.zero.wide⟩
end Go.Proofs.Ytneehnoolhadbaa

