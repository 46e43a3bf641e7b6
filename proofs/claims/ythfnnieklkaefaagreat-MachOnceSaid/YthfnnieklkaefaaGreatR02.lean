/- SessRef SessRef2 SessRef3 SessC00 -/
import Derived.Test.YthfnnieklkaefaaGreatR01
import Derived.Deep.CutBlock
import Derived.Deep.RegionLaw
namespace Go.Proofs.YthfnnieklkaefaaGreat
open Go.RowKit
set_option linter.unusedVariables false
theorem Rd.lastAt (w : World) (A : Option Addr) (c : Nat) (l : Ls) (t : TypeId) {g : Nat} (hg : w.heap.size = g) : Rd (w.alloc (.cells #[.int .i64 l.s, .int .i64 l.q, .int .i64 l.e, .slice A l.v.length c, .int .i64 l.n] t)) (g + 1) (some ⟨g, 0, none⟩) (1 * 5) (lastC A c l) := by
  subst hg; exact Rd.made w #[.int .i64 l.s, .int .i64 l.q, .int .i64 l.e, .slice A l.v.length c, .int .i64 l.n] t (0, 0) 5 rfl
theorem lastC_one (A : Option Addr) (c : Nat) (l : Ls) : ∀ u ∈ lastC A c l, u.oneCell' = true := by
  intro u hu
  unfold lastC at hu
  simp at hu
  rcases hu with rfl | rfl | rfl | rfl | rfl <;> rfl
end Go.Proofs.YthfnnieklkaefaaGreat

namespace Go.Proofs.YthfnnieklkaefaaGreat
open Go.RowKit
set_option linter.unusedVariables false
theorem results_cell_tmp {P : Program} {fn : Func} {u p : Tmp} {ty : TypeId} (h : fn.results = #[.cell p ty, .tmp u]) (tmps : Array Value) (w : World) (g : Nat) (t : TypeId) (cs : Array Value) (d : TypeDesc)
    (hp : tmps.getD p undef = .pointer (some ⟨g, 0, none⟩)) (hg : Blk w g t cs)
    (hu : P.underlying ty = some d) (hd : (match d with | .struct _ | .array _ _ => true | _ => false) = true) (hi : (P.info? ty).map (·.size) = some cs.size) :
    (results fn tmps).run P w = .ok (.tuple #[.agg cs, tmps.getD u undef]) w := by
  have hp' : tmps[p]?.getD undef = .pointer (some ⟨g, 0, none⟩) := by simpa using hp
  simp [results, h, hp', asAddr, run_loadVar_row w g t ty cs (0, 0) d hg hu hd hi]
/-- the variable of the answer is written: what the call tells then -/
theorem lookDone {w w2 : World} {A1 : Option Addr} {c1 : Nat} {l : List Nat} {e N k : Int} {en : Ending} (HK : Blk w2 w.heap.size 40 zeroR) (hB : Below w.heap.size w w2) (ho : OwnB w w2 A1 l.length c1 l)
    (he : en = .returned (.tuple #[.agg #[.int .i64 e, .slice A1 l.length c1, .int .i64 N], .int .i64 k])) :
    GotRK w w e l N k en (((w2.setCell ⟨w.heap.size, 0, none⟩ (.int .i64 e)).setCell ⟨w.heap.size, 1, none⟩ (.slice A1 l.length c1)).setCell ⟨w.heap.size, 2, none⟩ (.int .i64 N)) := by
  obtain ⟨k1, k2, k3⟩ := put3 HK (.int .i64 e) (.slice A1 l.length c1) (.int .i64 N)
  have h2 := k2 w (Nat.le_refl _) hB
  exact ⟨A1, c1, he, k3 _ _ _ _ _ _ ho (by decide), h2, h2⟩
end Go.Proofs.YthfnnieklkaefaaGreat

namespace Go.Proofs.YthfnnieklkaefaaGreat
open Go.RowKit
set_option linter.unusedVariables false
theorem five5 {w : World} {b : Nat} {t : TypeId} {x y z u v : Value} (h : Blk w b t #[x, y, z, u, v]) :
    w.cell? ⟨b, 0, none⟩ = some x ∧ w.cell? ⟨b, 1, none⟩ = some y ∧ w.cell? ⟨b, 2, none⟩ = some z ∧ w.cell? ⟨b, 3, none⟩ = some u ∧ w.cell? ⟨b, 4, none⟩ = some v :=
  ⟨h.cell 0, h.cell 1, h.cell 2, h.cell 3, h.cell 4⟩
end Go.Proofs.YthfnnieklkaefaaGreat

namespace Go.Proofs.YthfnnieklkaefaaGreat
open Go.RowKit
set_option linter.unusedVariables false
/-- a table that is well -/
structure Tb.Ok (ls : List Ls) : Prop where
  rises : Tb.Rises ls
  len : ls.length ≤ 1000
  each : ∀ l ∈ ls, Tb.named l.s l.q ∧ l.v.length ≤ 16 ∧ ∀ x ∈ l.v, x < 256
theorem Tb.Ok.nil : Tb.Ok [] := ⟨List.Pairwise.nil, by simp, by intro l h; cases h⟩
theorem Tb.Ok.put {ls : List Ls} {l : Ls} (h : Tb.Ok ls) (hl : ls.length < 1000) (hn : Tb.named l.s l.q) (hv : l.v.length ≤ 16) (hb : ∀ x ∈ l.v, x < 256) : Tb.Ok (Tb.put ls l) :=
  ⟨Tb.put_rises h.rises, by have := Tb.length_put_le (ls := ls) (l := l); omega, fun m hm => by
    rcases Tb.mem_put hm with rfl | hm
    · exact ⟨hn, hv, hb⟩
    · exact h.each m hm⟩
theorem Tb.Ok.lim {ls : List Ls} (h : Tb.Ok ls) : LimLs ls := fun l hl => by have := (h.each l hl).2.1; unfold Lim; omega
theorem Tb.Ok.bytes {ls : List Ls} (h : Tb.Ok ls) : BytesLs ls := fun l hl => (h.each l hl).2.2
/-- Look, as the code owes it -/
def LookC9 : Prop := ∀ {W w : World} {ls : List Ls} {A : Option Addr} {n c B : Nat} (s q : Int), Tb.Ok ls → n ≤ c → RdL w B A n ls → Below W.heap.size W w →
    Calls Tryz.prog 30 #[.slice A n c, .int .i64 s, .int .i64 q] w (GotRK W w (Tb.look ls s q).e (Tb.look ls s q).v (Tb.look ls s q).n (Tb.look ls s q).k)
/-- Put, as the code owes it -/
def PutC9 : Prop := ∀ {W w : World} {ls : List Ls} {A A' : Option Addr} {n c c' B B' : Nat} (l : Ls), Tb.Ok ls → Tb.named l.s l.q → l.v.length ≤ 16 → (∀ x ∈ l.v, x < 256) → n ≤ c → RdL w B A n ls → Rd w B' A' l.v.length (bv l.v) → Below W.heap.size W w →
    Calls Tryz.prog 33 #[.slice A n c, .int .i64 l.s, .int .i64 l.q, .agg #[.int .i64 l.e, .slice A' l.v.length c', .int .i64 l.n]] w (GotL W w (Tb.put ls l))
end Go.Proofs.YthfnnieklkaefaaGreat

