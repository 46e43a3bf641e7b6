/- SessC00 MachMath -/
import Derived.Test.YtaknfmionkkdjaaGreatFO11
import Derived.Test.YtaknfmionkkdjaaGreatFO17
import Derived.Test.YtaknfmionkkdjaaGreatFO18
namespace Go.Proofs.YtaknfmionkkdjaaGreat
open Go.RowKit
set_option linter.unusedVariables false
/-- a table that is well -/
structure Tb.Ok (ls : List Ls) : Prop where
  rises : Tb.Rises ls
  len : ls.length ≤ 1000
  each : ∀ l ∈ ls, Tb.named l.s l.q ∧ l.v.length ≤ 16 ∧ ∀ x ∈ l.v, x < 256
theorem Tb.Ok.nil : Tb.Ok [] := ⟨List.Pairwise.nil, by simp, by intro l h; cases h⟩
theorem Tb.Ok.put {ls : List Ls} {l : Ls} (h : Tb.Ok ls) (hl : ls.length < 1000) (hn : Tb.named l.s l.q) (hv : l.v.length ≤ 16) (hb : ∀ x ∈ l.v, x < 256) : Tb.Ok (Tb.put ls l) :=
  ⟨Tb.put_rises h.rises, by have := Tb.length_put_le (ls := ls) (l := l); omega, fun m hm => by
    rcases Tb.mem_put hm with rfl | hm
    · exact ⟨hn, hv, hb⟩
    · exact h.each m hm⟩
theorem Tb.Ok.lim {ls : List Ls} (h : Tb.Ok ls) : LimLs ls := fun l hl => by have := (h.each l hl).2.1; unfold Lim; omega
theorem Tb.Ok.bytes {ls : List Ls} (h : Tb.Ok ls) : BytesLs ls := fun l hl => (h.each l hl).2.2
theorem Tb.look_vb {ls : List Ls} (h : Tb.Ok ls) (s q : Int) : ∀ x ∈ (Tb.look ls s q).v, x < 256 := by
  unfold Tb.look
  split
  · split
    · rename_i l hl
      split
      · intro x hx; cases hx
      · split
        · exact (h.each l (List.mem_of_find?_eq_some hl)).2.2
        · intro x hx; cases hx
    · split <;> (intro x hx; cases hx)
  · intro x hx; cases hx
/-- Look, as the code owes it -/
def LookC9 : Prop := ∀ {W w : World} {ls : List Ls} {A : Option Addr} {n c B : Nat} (s q : Int), Tb.Ok ls → n ≤ c → RdL w B A n ls → Below W.heap.size W w →
    Calls Tryz.prog 65 #[.slice A n c, .int .i64 s, .int .i64 q] w (GotRK W w (Tb.look ls s q).e (Tb.look ls s q).v (Tb.look ls s q).n (Tb.look ls s q).k)
/-- Put, as the code owes it -/
def PutC9 : Prop := ∀ {W w : World} {ls : List Ls} {A A' : Option Addr} {n c c' B B' : Nat} (l : Ls), Tb.Ok ls → Tb.named l.s l.q → l.v.length ≤ 16 → (∀ x ∈ l.v, x < 256) → n ≤ c → RdL w B A n ls → Rd w B' A' l.v.length (bv l.v) → Below W.heap.size W w →
    Calls Tryz.prog 67 #[.slice A n c, .int .i64 l.s, .int .i64 l.q, .agg #[.int .i64 l.e, .slice A' l.v.length c', .int .i64 l.n]] w (GotL W w (Tb.put ls l))
end Go.Proofs.YtaknfmionkkdjaaGreat

namespace Go.Proofs.YtaknfmionkkdjaaGreat
open Go.RowKit
set_option linter.unusedVariables false
/-- a machine: objects, and the table -/
structure Mc where
  o : Ob
  t : List Ls
/-- an entry: session, number, command -/
structure En where
  s : Int
  q : Int
  c : Cm
/-- what a step leaves, and answers -/
structure MAns where
  m : Mc
  e : Int
  v : List Nat
  n : Int
def Mc.zero : Mc := ⟨⟨[], [], [], []⟩, []⟩
def Mc.step (m : Mc) (e : En) : MAns :=
  if (Tb.look m.t e.s e.q).k = 0 then ⟨⟨(m.o.apply e.c).s, Tb.put m.t ⟨e.s, e.q, (m.o.apply e.c).e, (m.o.apply e.c).v, (m.o.apply e.c).n⟩⟩, (m.o.apply e.c).e, (m.o.apply e.c).v, (m.o.apply e.c).n⟩
  else ⟨m, (Tb.look m.t e.s e.q).e, (Tb.look m.t e.s e.q).v, (Tb.look m.t e.s e.q).n⟩
/-- a machine that keeps its bounds -/
structure Mc.Ok (m : Mc) : Prop where
  o : m.o.Inv
  lk : ∀ z ∈ m.o.lk, 0 ≤ z ∧ z ≤ 999
  t : Tb.Ok m.t
  t8 : m.t.length ≤ 8
  te : ∀ l ∈ m.t, 0 ≤ l.e ∧ l.e ≤ 10 ∧ -1 ≤ l.n ∧ l.n ≤ 1073741824
theorem Mc.Ok.zero : Mc.zero.Ok := ⟨Ob.Inv.nil, fun z h => (by cases h), Tb.Ok.nil, by decide, fun l h => (by cases h)⟩
/-- what Apply answers keeps the bounds -/
structure Ans.Fits (r : Ans) : Prop where
  e : 0 ≤ r.e ∧ r.e ≤ 7
  v : r.v.length ≤ 16
  n : -1 ≤ r.n ∧ r.n ≤ 1000
  lk : ∀ z ∈ r.s.lk, 0 ≤ z ∧ z ≤ 999
theorem Mp.getV_len {ps : List Pr} {k : List Nat} (h : Mp.Inv ps) : (Mp.getV ps k).length ≤ 16 := by
  rcases Mp.getV_mem (ps := ps) (k := k) with e | ⟨p, hp, e⟩
  · rw [e]; simp
  · rw [e]; exact (h.len p hp).2
theorem Mp.getE_le (ps : List Pr) (k : List Nat) : 0 ≤ Mp.getE ps k ∧ Mp.getE ps k ≤ 7 := by
  unfold Mp.getE; split <;> omega
theorem Ob.apply_fits {s : Ob} {c : Cm} (h : s.Inv) (hl : ∀ z ∈ s.lk, 0 ≤ z ∧ z ≤ 999) : (s.apply c).Fits := by
  have hz : ([] : List Nat).length ≤ 16 := by simp
  have hn : (-1 : Int) ≤ 0 ∧ (0 : Int) ≤ 1000 := by omega
  have he0 : (0 : Int) ≤ 0 ∧ (0 : Int) ≤ 7 := by omega
  have hmem : ∀ l ∈ s.q, l.length ≤ 16 := h.qv
  refine Ob.apply_ind (P := fun r => r.Fits) s c (fun _ => ⟨he0, h.reg, hn, hl⟩) (fun _ => ⟨?_, hz, hn, hl⟩) (fun _ => ⟨?_, ?_, hn, hl⟩) (fun _ => ⟨?_, hz, ?_, hl⟩) (fun _ => ⟨?_, ?_, hn, hl⟩) (fun hk => ⟨?_, hz, ?_, ?_⟩) (fun hk => ⟨?_, hz, ?_, ?_⟩) (fun _ => ⟨?_, hz, ?_, hl⟩) (fun _ => ⟨?_, ?_, ?_, hl⟩) (fun _ => ⟨Mp.getE_le _ _, Mp.getV_len h.mp, hn, hl⟩) (fun _ => ⟨Mp.getE_le _ _, Mp.getV_len h.mp, hn, hl⟩) ⟨(by decide : (0 : Int) ≤ 7 ∧ (7 : Int) ≤ 7), hz, hn, hl⟩
  · show 0 ≤ (if c.val.length ≤ 16 then (0 : Int) else 1) ∧ (if c.val.length ≤ 16 then (0 : Int) else 1) ≤ 7
    split <;> omega
  · show 0 ≤ casE s.reg c.old c.val ∧ casE s.reg c.old c.val ≤ 7
    unfold casE; split; omega; split <;> omega
  · show (casV s.reg c.old c.val).length ≤ 16
    unfold casV; split; simp; split; simp; exact h.reg
  · show 0 ≤ pushE s.q c.val ∧ pushE s.q c.val ≤ 7
    unfold pushE; split; omega; split <;> omega
  · show -1 ≤ pushN s.q c.val ∧ pushN s.q c.val ≤ 1000
    have := h.ql
    unfold pushN; split; omega; split; omega; push_cast; omega
  · show 0 ≤ popE s.q ∧ popE s.q ≤ 7
    unfold popE; split <;> omega
  · show (popV s.q).length ≤ 16
    unfold popV
    cases hq : s.q with
    | nil => simp
    | cons l t => exact hmem l (by rw [hq]; simp)
  · show 0 ≤ takeE s.lk c.who ∧ takeE s.lk c.who ≤ 7
    unfold takeE; split; omega; split <;> omega
  · show -1 ≤ takeN s.lk c.who ∧ takeN s.lk c.who ≤ 1000
    have := h.lkl
    unfold takeN; split; omega; split; omega; omega
  · show ∀ z ∈ takeS s.lk c.who, 0 ≤ z ∧ z ≤ 999
    unfold takeS
    split
    · exact hl
    · split
      · exact hl
      · intro z hz
        rcases List.mem_append.1 hz with hz | hz
        · exact hl z hz
        · have : z = c.who := by simpa using hz
          omega
  · show 0 ≤ freeE s.lk c.who ∧ freeE s.lk c.who ≤ 7
    unfold freeE; split <;> omega
  · show -1 ≤ freeN s.lk c.who ∧ freeN s.lk c.who ≤ 1000
    unfold freeN
    split
    · cases hq : s.lk.erase c.who with
      | nil => simp
      | cons a t =>
        have : a ∈ s.lk := List.mem_of_mem_erase (by rw [hq]; simp)
        have := hl a this
        simp; omega
    · omega
  · show ∀ z ∈ s.lk.erase c.who, 0 ≤ z ∧ z ≤ 999
    exact fun z hz => hl z (List.mem_of_mem_erase hz)
  · show 0 ≤ ownerE s.lk ∧ ownerE s.lk ≤ 7
    unfold ownerE; split <;> omega
  · show -1 ≤ ownerN s.lk ∧ ownerN s.lk ≤ 1000
    unfold ownerN
    cases hq : s.lk with
    | nil => simp
    | cons a t =>
      have := hl a (by rw [hq]; simp)
      simp; omega
  · show 0 ≤ Mp.putE s.mp c.key c.val ∧ Mp.putE s.mp c.key c.val ≤ 7
    unfold Mp.putE; split; omega; split; omega; split <;> omega
  · show (Mp.putV s.mp c.key c.val).length ≤ 16
    rcases Mp.putV_mem (ps := s.mp) (k := c.key) (v := c.val) with e | ⟨p, hp, e⟩
    · rw [e]; simp
    · rw [e]; exact (h.mp.len p hp).2
  · show -1 ≤ Mp.putN s.mp c.key c.val ∧ Mp.putN s.mp c.key c.val ≤ 1000
    have := h.mp.few
    unfold Mp.putN
    split
    · omega
    · split
      · omega
      · split
        · omega
        · push_cast; omega
end Go.Proofs.YtaknfmionkkdjaaGreat

