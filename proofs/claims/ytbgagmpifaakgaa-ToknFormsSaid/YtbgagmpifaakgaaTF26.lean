/- MesgKit -/
import Derived.Test.YtbgagmpifaakgaaTF05
import Derived.Test.YtbgagmpifaakgaaTF13
import Derived.Test.YtbgagmpifaakgaaTF25
namespace Go.Proofs.Ytbgagmpifaakgaa
open Go.RowKit
set_option linter.unusedVariables false
/-- where a message lies -/
structure GA where
  Ad : Option Addr
  cd : Nat
  Ah : Option Addr
  ch : Nat
  An : Option Addr
  cn : Nat
  c : CA
def CA.zero : CA := ⟨none, 0, none, 0, none, 0⟩
def msgC (a : GA) (m : Mg) : Array Value := #[.int .i64 m.kind, .int .i64 m.frm, .int .i64 m.dst, .int .i64 m.view, .int .i64 m.inst, .int .i64 m.len, .bool m.has, .int .i64 m.mem, .int .i64 m.src, .int .i64 m.pos, .int .i64 m.tot, .slice a.Ad m.data.length a.cd, .int .i64 m.hop, .int .i64 m.seq, .slice a.Ah m.hav.length a.ch, .slice a.An m.nee.length a.cn, .int .i64 m.idx, .int .i64 m.ent.s, .int .i64 m.ent.q, .int .i64 m.ent.c.kind, .int .i64 m.ent.c.who, .slice a.c.Ak m.ent.c.key.length a.c.ck, .slice a.c.Av m.ent.c.val.length a.c.cv, .slice a.c.Ao m.ent.c.old.length a.c.co]
def msgV (a : GA) (m : Mg) : Value := .agg (msgC a m)
def msgZ : Array Value := #[.int .i64 0, .int .i64 0, .int .i64 0, .int .i64 0, .int .i64 0, .int .i64 0, .bool false, .int .i64 0, .int .i64 0, .int .i64 0, .int .i64 0, .slice none 0 0, .int .i64 0, .int .i64 0, .slice none 0 0, .slice none 0 0, .int .i64 0, .int .i64 0, .int .i64 0, .int .i64 0, .int .i64 0, .slice none 0 0, .slice none 0 0, .slice none 0 0]
/-- a message that reads -/
structure RdG (w : World) (B : Nat) (a : GA) (m : Mg) : Prop where
  d : Rd w B a.Ad m.data.length (bv m.data)
  h : Rd w B a.Ah m.hav.length (iv m.hav)
  n : Rd w B a.An m.nee.length (iv m.nee)
  c : RdC w B a.c m.ent.c
  hl : m.hav.length ≤ a.ch ∧ a.ch ≤ maxLen
  nl : m.nee.length ≤ a.cn ∧ a.cn ≤ maxLen
/-- a message of the call's own -/
structure OwnG (W w : World) (a : GA) (m : Mg) : Prop where
  d : OwnB W w a.Ad m.data.length a.cd m.data
  h : OwnI W w a.Ah m.hav.length a.ch m.hav
  n : OwnI W w a.An m.nee.length a.cn m.nee
  c : OwnC W w a.c m.ent.c
section
variable {W w w' : World} {B : Nat} {a : GA} {m : Mg} {c : Cm} {ca : CA}
theorem RdG.below (h : RdG w B a m) (hb : Below B w w') : RdG w' B a m := ⟨h.d.below hb, h.h.below hb, h.n.below hb, h.c.below hb, h.hl, h.nl⟩
theorem RdG.fit (h : RdG w B a m) : RdG w w.heap.size a m := ⟨h.d.fit, h.h.fit, h.n.fit, h.c.fit, h.hl, h.nl⟩
theorem OwnC.below (h : OwnC W w ca c) (hb : Below w.heap.size w w') : OwnC W w' ca c := ⟨own_below h.k hb, own_below h.v hb, own_below h.o hb⟩
theorem OwnC.of (hs : W.heap.size ≤ w.heap.size) (h : OwnC w w' ca c) : OwnC W w' ca c := ⟨own_of hs h.k, own_of hs h.v, own_of hs h.o⟩
theorem OwnC.zero (W w : World) : OwnC W w CA.zero ⟨0, 0, [], [], []⟩ := ⟨own_nil _ _, own_nil _ _, own_nil _ _⟩
theorem OwnG.of (hs : W.heap.size ≤ w.heap.size) (h : OwnG w w' a m) : OwnG W w' a m := ⟨own_of hs h.d, own_of hs h.h, own_of hs h.n, h.c.of hs⟩
end
end Go.Proofs.Ytbgagmpifaakgaa

