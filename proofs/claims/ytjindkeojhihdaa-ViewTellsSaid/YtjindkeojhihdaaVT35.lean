/- MesgKit -/
import Derived.Test.YtjindkeojhihdaaVT07
import Derived.Test.YtjindkeojhihdaaVT09
import Derived.Test.YtjindkeojhihdaaVT30
import Derived.Test.YtjindkeojhihdaaVT32
import Derived.Test.YtjindkeojhihdaaVT33
import Derived.Test.YtjindkeojhihdaaVT34
import Derived.Deep.RegionHeld3
namespace Go.Proofs.Ytjindkeojhihdaa
open Go.RowKit
set_option linter.unusedVariables false
/-- where a message lies -/
structure GA where
  Ad : Option Addr
  cd : Nat
  Ah : Option Addr
  ch : Nat
  An : Option Addr
  cn : Nat
  c : CA
def CA.zero : CA := ⟨none, 0, none, 0, none, 0⟩
def GA.zero : GA := ⟨none, 0, none, 0, none, 0, CA.zero⟩
def msgC (a : GA) (m : Mg) : Array Value := #[.int .i64 m.kind, .int .i64 m.frm, .int .i64 m.dst, .int .i64 m.view, .int .i64 m.inst, .int .i64 m.len, .bool m.has, .int .i64 m.mem, .int .i64 m.src, .int .i64 m.pos, .int .i64 m.tot, .slice a.Ad m.data.length a.cd, .int .i64 m.hop, .int .i64 m.seq, .slice a.Ah m.hav.length a.ch, .slice a.An m.nee.length a.cn, .int .i64 m.idx, .int .i64 m.ent.s, .int .i64 m.ent.q, .int .i64 m.ent.c.kind, .int .i64 m.ent.c.who, .slice a.c.Ak m.ent.c.key.length a.c.ck, .slice a.c.Av m.ent.c.val.length a.c.cv, .slice a.c.Ao m.ent.c.old.length a.c.co]
def msgV (a : GA) (m : Mg) : Value := .agg (msgC a m)
def msgZ : Array Value := #[.int .i64 0, .int .i64 0, .int .i64 0, .int .i64 0, .int .i64 0, .int .i64 0, .bool false, .int .i64 0, .int .i64 0, .int .i64 0, .int .i64 0, .slice none 0 0, .int .i64 0, .int .i64 0, .slice none 0 0, .slice none 0 0, .int .i64 0, .int .i64 0, .int .i64 0, .int .i64 0, .int .i64 0, .slice none 0 0, .slice none 0 0, .slice none 0 0]
/-- a message that reads -/
structure RdG (w : World) (B : Nat) (a : GA) (m : Mg) : Prop where
  d : Rd w B a.Ad m.data.length (bv m.data)
  h : Rd w B a.Ah m.hav.length (iv m.hav)
  n : Rd w B a.An m.nee.length (iv m.nee)
  c : RdC w B a.c m.ent.c
  hl : m.hav.length ≤ a.ch ∧ a.ch ≤ maxLen
  nl : m.nee.length ≤ a.cn ∧ a.cn ≤ maxLen
section
variable {W w w' : World} {B : Nat} {a : GA} {m : Mg} {c : Cm} {ca : CA}
end
end Go.Proofs.Ytjindkeojhihdaa

