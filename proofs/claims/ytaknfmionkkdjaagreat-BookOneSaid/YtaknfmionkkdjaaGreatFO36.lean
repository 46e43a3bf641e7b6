/- BlobKit -/
import Derived.Test.YtaknfmionkkdjaaGreatFO26
import Derived.Test.YtaknfmionkkdjaaGreatFO28
import Derived.Test.YtaknfmionkkdjaaGreatFO29
import Derived.Test.YtaknfmionkkdjaaGreatFO34
namespace Go.Proofs.YtaknfmionkkdjaaGreat
open Go.RowKit
set_option linter.unusedVariables false
/-- where a state lies -/
structure SA where
  m : MA
  Ar : Option Addr
  cr : Nat
def SA.zero : SA := ⟨⟨⟨none, 0, none, 0, none, 0, none, 0⟩, none, 0⟩, none, 0⟩
def stateC (a : SA) (s : Sb) : Array Value := #[.int .i64 s.pos, .slice a.m.o.A0 s.m.o.reg.length a.m.o.c0, .slice a.m.o.A1 s.m.o.q.length a.m.o.c1, .slice a.m.o.A2 s.m.o.lk.length a.m.o.c2, .slice a.m.o.A3 s.m.o.mp.length a.m.o.c3, .slice a.m.At s.m.t.length a.m.ct, .slice a.Ar s.rest.length a.cr]
def stateV (a : SA) (s : Sb) : Value := .agg (stateC a s)
/-- an own row of entries, with their rows -/
def OwnEs (W w : World) (A : Option Addr) (n c : Nat) (es : List En) : Prop := ∃ vs, w.ownsRow W.heap.size 40 7 (.slice A n c) n vs ∧ CellsE (fun a c => OwnC W w a c) vs es
section
variable {W w w' : World} {A : Option Addr} {n c B : Nat} {es : List En} {a : SA} {s : Sb}
theorem OwnC.belowB {ca : CA} {k : Cm} (h : OwnC W w ca k) (hb : Below w.heap.size w w') : OwnC W w' ca k := ⟨own_below h.k hb, own_below h.v hb, own_below h.o hb⟩
theorem OwnEs.below (h : OwnEs W w A n c es) (hb : Below w.heap.size w w') : OwnEs W w' A n c es := by
  obtain ⟨vs, h1, h2⟩ := h
  exact ⟨vs, ownsRow_below h1 hb, h2.imp fun _ _ h => h.belowB hb⟩
theorem OwnEs.rd (h : OwnEs W w A n c es) : RdE w w.heap.size A n es := by
  obtain ⟨vs, h1, h2⟩ := h
  exact ⟨vs, Rd.ownS h1 (by decide), h2.imp fun _ _ h => h.rd⟩
theorem OwnEs.nil (W w : World) : OwnEs W w none 0 0 [] := ⟨[], ⟨rfl, .inl ⟨rfl, rfl⟩⟩, CellsE.nil⟩
/-- a state that reads -/
structure RdS (w : World) (B : Nat) (a : SA) (s : Sb) : Prop where
  m : RdM w B a.m s.m
  r : RdE w B a.Ar s.rest.length s.rest
/-- a state of the call's own -/
structure OwnS (W w : World) (a : SA) (s : Sb) : Prop where
  m : OwnM W w a.m s.m
  r : OwnEs W w a.Ar s.rest.length a.cr s.rest
theorem RdS.below (h : RdS w B a s) (hb : Below B w w') : RdS w' B a s := ⟨h.m.below hb, h.r.below hb⟩
theorem RdS.fit (h : RdS w B a s) : RdS w w.heap.size a s := ⟨h.m.fit, h.r.fit⟩
end
end Go.Proofs.YtaknfmionkkdjaaGreat

