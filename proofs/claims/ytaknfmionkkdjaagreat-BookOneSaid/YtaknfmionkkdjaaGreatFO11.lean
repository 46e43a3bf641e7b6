/- ObjKit ObjsOk0 -/
import Derived.Test.YtaknfmionkkdjaaGreatFO01
import Derived.Test.YtaknfmionkkdjaaGreatFO06
import Derived.Test.YtaknfmionkkdjaaGreatFO08
import Derived.Test.YtaknfmionkkdjaaGreatFO09
import Derived.Test.YtaknfmionkkdjaaGreatFO10
namespace Go.Proofs.YtaknfmionkkdjaaGreat
open Go.RowKit
set_option linter.unusedVariables false
/-- a register, a queue, a lock, a map -/
structure Ob where
  reg : List Nat
  q : List (List Nat)
  lk : List Int
  mp : List Pr
/-- a command -/
structure Cm where
  kind : Int
  who : Int
  key : List Nat
  val : List Nat
  old : List Nat
/-- where objects lie -/
structure OA where
  A0 : Option Addr
  c0 : Nat
  A1 : Option Addr
  c1 : Nat
  A2 : Option Addr
  c2 : Nat
  A3 : Option Addr
  c3 : Nat
/-- where a command lies -/
structure CA where
  Ak : Option Addr
  ck : Nat
  Av : Option Addr
  cv : Nat
  Ao : Option Addr
  co : Nat
def objC (a : OA) (s : Ob) : Array Value := #[.slice a.A0 s.reg.length a.c0, .slice a.A1 s.q.length a.c1, .slice a.A2 s.lk.length a.c2, .slice a.A3 s.mp.length a.c3]
def cmdC (a : CA) (c : Cm) : Array Value := #[.int .i64 c.kind, .int .i64 c.who, .slice a.Ak c.key.length a.ck, .slice a.Av c.val.length a.cv, .slice a.Ao c.old.length a.co]
def objV (a : OA) (s : Ob) : Value := .agg (objC a s)
def cmdV (a : CA) (c : Cm) : Value := .agg (cmdC a c)
/-- objects that read -/
structure RdO (w : World) (B : Nat) (a : OA) (s : Ob) : Prop where
  r0 : Rd w B a.A0 s.reg.length (bv s.reg)
  r1 : RdQ w B a.A1 s.q.length s.q
  r2 : Rd w B a.A2 s.lk.length (iv s.lk)
  r3 : RdP w B a.A3 s.mp.length s.mp
  l1 : s.q.length ≤ a.c1
  l2 : s.lk.length ≤ a.c2
  l3 : s.mp.length ≤ a.c3
/-- a command that reads -/
structure RdC (w : World) (B : Nat) (a : CA) (c : Cm) : Prop where
  rk : Rd w B a.Ak c.key.length (bv c.key)
  rv : Rd w B a.Av c.val.length (bv c.val)
  ro : Rd w B a.Ao c.old.length (bv c.old)
/-- objects of the call's own -/
structure OwnO (W w : World) (a : OA) (s : Ob) : Prop where
  o0 : OwnB W w a.A0 s.reg.length a.c0 s.reg
  o1 : OwnQ W w a.A1 s.q.length a.c1 s.q
  o2 : OwnI W w a.A2 s.lk.length a.c2 s.lk
  o3 : OwnP W w a.A3 s.mp.length a.c3 s.mp
section
variable {W w w' : World} {B : Nat} {a : OA} {ca : CA} {s : Ob} {c : Cm}
theorem RdO.below (h : RdO w B a s) (hb : Below B w w') : RdO w' B a s := ⟨h.r0.below hb, h.r1.below hb, h.r2.below hb, h.r3.below hb, h.l1, h.l2, h.l3⟩
theorem RdO.fit (h : RdO w B a s) : RdO w w.heap.size a s := ⟨h.r0.fit, h.r1.fit, h.r2.fit, h.r3.fit, h.l1, h.l2, h.l3⟩
theorem RdC.below (h : RdC w B ca c) (hb : Below B w w') : RdC w' B ca c := ⟨h.rk.below hb, h.rv.below hb, h.ro.below hb⟩
theorem RdC.fit (h : RdC w B ca c) : RdC w w.heap.size ca c := ⟨h.rk.fit, h.rv.fit, h.ro.fit⟩
theorem RdC.below' (h : RdC w w.heap.size ca c) (hb : Below w.heap.size w w') : RdC w' w'.heap.size ca c := (h.below hb).fit
theorem OwnQ.cap {W w : World} {A : Option Addr} {n c : Nat} {qs : List (List Nat)} (h : OwnQ W w A n c qs) : n ≤ c := by obtain ⟨vs, h1, _⟩ := h; exact (own_cap h1).1
theorem OwnO.rd (h : OwnO W w a s) : RdO w w.heap.size a s := ⟨Rd.own_ h.o0, h.o1.rd, Rd.own_ h.o2, h.o3.rd, h.o1.cap, (own_cap h.o2).1, h.o3.cap⟩
theorem OwnO.below (h : OwnO W w a s) (hb : Below w.heap.size w w') : OwnO W w' a s := ⟨own_below h.o0 hb, h.o1.below hb, ownsRow_below h.o2 hb, h.o3.below hb⟩
theorem OwnO.of {W w w' : World} (hs : W.heap.size ≤ w.heap.size) (h : OwnO w w' a s) : OwnO W w' a s := ⟨more_ hs h.o0, h.o1.of hs, more_ hs h.o2, h.o3.of hs⟩
theorem RdO.nil (w : World) (B : Nat) : RdO w B ⟨none, 0, none, 0, none, 0, none, 0⟩ ⟨[], [], [], []⟩ :=
  ⟨Rd.none_ _ _ _, RdQ.nil _ _ _, Rd.none_ _ _ _, RdP.nil _ _ _, Nat.le_refl _, Nat.le_refl _, Nat.le_refl _⟩
theorem OwnO.set_t {b i : Nat} {t : TypeId} {u : Value} {cs : Array Value} (h : OwnO W w a s) (hb : Blk w b t cs) (h1 : 5 ≠ t) (h2 : 26 ≠ t) (h3 : 3 ≠ t) (h4 : 55 ≠ t) : OwnO W (w.setCell ⟨b, i, none⟩ u) a s :=
  ⟨own_set_t h.o0 hb h1, h.o1.set_t hb h1 h2, own_set_t h.o2 hb h3, h.o3.set_t hb h1 h4⟩
end
/-- what objects keep -/
structure Ob.Inv (s : Ob) : Prop where
  reg : s.reg.length ≤ 16
  regb : ∀ x ∈ s.reg, x < 256
  ql : s.q.length ≤ 8
  qv : ∀ l ∈ s.q, l.length ≤ 16
  qb : BytesL s.q
  lkl : s.lk.length ≤ 5
  lkn : s.lk.Nodup
  mp : Mp.Inv s.mp
/-- what a command keeps -/
structure Cm.Fits (c : Cm) : Prop where
  key : c.key.length ≤ 100 ∧ ∀ x ∈ c.key, x < 256
  val : c.val.length ≤ 100 ∧ ∀ x ∈ c.val, x < 256
  old : c.old.length ≤ 100 ∧ ∀ x ∈ c.old, x < 256
/-- what a call leaves, and answers -/
structure Ans where
  s : Ob
  e : Int
  v : List Nat
  n : Int
def Ob.apply (s : Ob) (c : Cm) : Ans :=
  if c.kind = 1 then ⟨s, 0, s.reg, 0⟩
  else if c.kind = 2 then ⟨{ s with reg := if c.val.length ≤ 16 then c.val else s.reg }, if c.val.length ≤ 16 then 0 else 1, [], 0⟩
  else if c.kind = 3 then ⟨{ s with reg := casS s.reg c.old c.val }, casE s.reg c.old c.val, casV s.reg c.old c.val, 0⟩
  else if c.kind = 4 then ⟨{ s with q := pushS s.q c.val }, pushE s.q c.val, [], pushN s.q c.val⟩
  else if c.kind = 5 then ⟨{ s with q := s.q.tail }, popE s.q, popV s.q, 0⟩
  else if c.kind = 6 ∧ 0 ≤ c.who ∧ c.who ≤ 999 then ⟨{ s with lk := takeS s.lk c.who }, takeE s.lk c.who, [], takeN s.lk c.who⟩
  else if c.kind = 7 ∧ 0 ≤ c.who ∧ c.who ≤ 999 then ⟨{ s with lk := s.lk.erase c.who }, freeE s.lk c.who, [], freeN s.lk c.who⟩
  else if c.kind = 8 then ⟨s, ownerE s.lk, [], ownerN s.lk⟩
  else if c.kind = 9 then ⟨{ s with mp := Mp.putS s.mp c.key c.val }, Mp.putE s.mp c.key c.val, Mp.putV s.mp c.key c.val, Mp.putN s.mp c.key c.val⟩
  else if c.kind = 10 then ⟨s, Mp.getE s.mp c.key, Mp.getV s.mp c.key, 0⟩
  else if c.kind = 11 then ⟨{ s with mp := Mp.delS s.mp c.key }, Mp.getE s.mp c.key, Mp.getV s.mp c.key, 0⟩
  else ⟨s, 7, [], 0⟩
/-- whatever holds of each answer -/
theorem Ob.apply_ind {P : Ans → Prop} (s : Ob) (c : Cm)
    (h1 : c.kind = 1 → P ⟨s, 0, s.reg, 0⟩)
    (h2 : c.kind = 2 → P ⟨{ s with reg := if c.val.length ≤ 16 then c.val else s.reg }, if c.val.length ≤ 16 then 0 else 1, [], 0⟩)
    (h3 : c.kind = 3 → P ⟨{ s with reg := casS s.reg c.old c.val }, casE s.reg c.old c.val, casV s.reg c.old c.val, 0⟩)
    (h4 : c.kind = 4 → P ⟨{ s with q := pushS s.q c.val }, pushE s.q c.val, [], pushN s.q c.val⟩)
    (h5 : c.kind = 5 → P ⟨{ s with q := s.q.tail }, popE s.q, popV s.q, 0⟩)
    (h6 : c.kind = 6 ∧ 0 ≤ c.who ∧ c.who ≤ 999 → P ⟨{ s with lk := takeS s.lk c.who }, takeE s.lk c.who, [], takeN s.lk c.who⟩)
    (h7 : c.kind = 7 ∧ 0 ≤ c.who ∧ c.who ≤ 999 → P ⟨{ s with lk := s.lk.erase c.who }, freeE s.lk c.who, [], freeN s.lk c.who⟩)
    (h8 : c.kind = 8 → P ⟨s, ownerE s.lk, [], ownerN s.lk⟩)
    (h9 : c.kind = 9 → P ⟨{ s with mp := Mp.putS s.mp c.key c.val }, Mp.putE s.mp c.key c.val, Mp.putV s.mp c.key c.val, Mp.putN s.mp c.key c.val⟩)
    (h10 : c.kind = 10 → P ⟨s, Mp.getE s.mp c.key, Mp.getV s.mp c.key, 0⟩)
    (h11 : c.kind = 11 → P ⟨{ s with mp := Mp.delS s.mp c.key }, Mp.getE s.mp c.key, Mp.getV s.mp c.key, 0⟩)
    (h0 : P ⟨s, 7, [], 0⟩) : P (s.apply c) := by
  unfold Ob.apply
  by_cases c1 : c.kind = 1
  · rw [if_pos c1]; exact h1 c1
  rw [if_neg c1]
  by_cases c2 : c.kind = 2
  · rw [if_pos c2]; exact h2 c2
  rw [if_neg c2]
  by_cases c3 : c.kind = 3
  · rw [if_pos c3]; exact h3 c3
  rw [if_neg c3]
  by_cases c4 : c.kind = 4
  · rw [if_pos c4]; exact h4 c4
  rw [if_neg c4]
  by_cases c5 : c.kind = 5
  · rw [if_pos c5]; exact h5 c5
  rw [if_neg c5]
  by_cases c6 : c.kind = 6 ∧ 0 ≤ c.who ∧ c.who ≤ 999
  · rw [if_pos c6]; exact h6 c6
  rw [if_neg c6]
  by_cases c7 : c.kind = 7 ∧ 0 ≤ c.who ∧ c.who ≤ 999
  · rw [if_pos c7]; exact h7 c7
  rw [if_neg c7]
  by_cases c8 : c.kind = 8
  · rw [if_pos c8]; exact h8 c8
  rw [if_neg c8]
  by_cases c9 : c.kind = 9
  · rw [if_pos c9]; exact h9 c9
  rw [if_neg c9]
  by_cases c10 : c.kind = 10
  · rw [if_pos c10]; exact h10 c10
  rw [if_neg c10]
  by_cases c11 : c.kind = 11
  · rw [if_pos c11]; exact h11 c11
  rw [if_neg c11]
  exact h0
theorem Ob.Inv.nil : Ob.Inv ⟨[], [], [], []⟩ := ⟨by simp, by simp, by simp, by simp, by intro l h; simp at h, by simp, by simp, Mp.Inv.nil⟩
theorem takeO_len (s : List Int) (x : Int) (h : s.length ≤ 5) : (takeS s x).length ≤ 5 := by
  unfold takeS; split
  · exact h
  · split
    · exact h
    · simp; omega
theorem takeO_nodup (s : List Int) (x : Int) (h : s.Nodup) : (takeS s x).Nodup := by
  unfold takeS; split
  · exact h
  · rename_i hx
    split
    · exact h
    · rw [List.nodup_append]
      exact ⟨h, by simp, fun a ha b hb => by simp at hb; subst hb; intro e; subst e; exact hx ha⟩
theorem Ob.Inv.apply {s : Ob} {c : Cm} (h : s.Inv) (hc : c.Fits) : (s.apply c).s.Inv := by
  refine Ob.apply_ind (P := fun r => r.s.Inv) s c (fun _ => h) (fun _ => ?_) (fun _ => ?_) (fun _ => ?_) (fun _ => ?_) (fun _ => ?_) (fun _ => ?_) (fun _ => h) (fun _ => ?_) (fun _ => h) (fun _ => ?_) h
  · by_cases hl : c.val.length ≤ 16
    · exact ⟨by simp only [if_pos hl]; exact hl, by simp only [if_pos hl]; exact hc.val.2, h.ql, h.qv, h.qb, h.lkl, h.lkn, h.mp⟩
    · exact ⟨by simp only [if_neg hl]; exact h.reg, by simp only [if_neg hl]; exact h.regb, h.ql, h.qv, h.qb, h.lkl, h.lkn, h.mp⟩
  · refine ⟨?_, casS_lt _ h.regb hc.val.2, h.ql, h.qv, h.qb, h.lkl, h.lkn, h.mp⟩
    show (casS s.reg c.old c.val).length ≤ 16
    unfold casS
    by_cases hl : 16 < c.val.length
    · rw [if_pos hl]; exact h.reg
    · rw [if_neg hl]
      by_cases he : s.reg = c.old
      · rw [if_pos he]; omega
      · rw [if_neg he]; exact h.reg
  · have hq : (pushS s.q c.val).length ≤ 8 ∧ ∀ l ∈ pushS s.q c.val, l.length ≤ 16 ∧ ∀ x ∈ l, x < 256 := by
      unfold pushS
      by_cases hl : 16 < c.val.length
      · rw [if_pos hl]; exact ⟨h.ql, fun l hl => ⟨h.qv l hl, h.qb l hl⟩⟩
      · rw [if_neg hl]
        by_cases h8 : 8 ≤ s.q.length
        · rw [if_pos h8]; exact ⟨h.ql, fun l hl => ⟨h.qv l hl, h.qb l hl⟩⟩
        · rw [if_neg h8]
          refine ⟨by simp; omega, fun l hm => ?_⟩
          rcases List.mem_append.1 hm with hm | hm
          · exact ⟨h.qv l hm, h.qb l hm⟩
          · have e : l = c.val := by simpa using hm
            rw [e]; exact ⟨by omega, hc.val.2⟩
    exact ⟨h.reg, h.regb, hq.1, fun l hl => (hq.2 l hl).1, fun l hl => (hq.2 l hl).2, h.lkl, h.lkn, h.mp⟩
  · exact ⟨h.reg, h.regb, by have := h.ql; show s.q.tail.length ≤ 8; simp; omega, fun l hl => h.qv l (List.mem_of_mem_tail hl), fun l hl => h.qb l (List.mem_of_mem_tail hl), h.lkl, h.lkn, h.mp⟩
  · exact ⟨h.reg, h.regb, h.ql, h.qv, h.qb, takeO_len _ _ h.lkl, takeO_nodup _ _ h.lkn, h.mp⟩
  · exact ⟨h.reg, h.regb, h.ql, h.qv, h.qb, Nat.le_trans List.length_erase_le h.lkl, h.lkn.erase _, h.mp⟩
  · exact ⟨h.reg, h.regb, h.ql, h.qv, h.qb, h.lkl, h.lkn, h.mp.put hc.key.2 hc.val.2⟩
  · exact ⟨h.reg, h.regb, h.ql, h.qv, h.qb, h.lkl, h.lkn, h.mp.del⟩
theorem Ob.apply_vb {s : Ob} {c : Cm} (h : s.Inv) : ∀ x ∈ (s.apply c).v, x < 256 := by
  have hz : ∀ x ∈ ([] : List Nat), x < 256 := by intro x hx; cases hx
  have hg : ∀ x ∈ Mp.getV s.mp c.key, x < 256 := by
    rcases Mp.getV_mem (ps := s.mp) (k := c.key) with e | ⟨p, hp, e⟩
    · rw [e]; exact hz
    · rw [e]; exact (h.mp.byt p hp).2
  refine Ob.apply_ind (P := fun r => ∀ x ∈ r.v, x < 256) s c (fun _ => h.regb) (fun _ => hz) (fun _ => casV_lt _ _ h.regb) (fun _ => hz) (fun _ => ?_) (fun _ => hz) (fun _ => hz) (fun _ => hz) (fun _ => ?_) (fun _ => hg) (fun _ => hg) hz
  · intro x hx
    have hx : x ∈ popV s.q := hx
    unfold popV at hx
    cases hq : s.q with
    | nil => rw [hq] at hx; simp at hx
    | cons l t => rw [hq] at hx; exact h.qb l (by rw [hq]; simp) x (by simpa using hx)
  · rcases Mp.putV_mem (ps := s.mp) (k := c.key) (v := c.val) with e | ⟨p, hp, e⟩
    · show ∀ x ∈ Mp.putV s.mp c.key c.val, x < 256
      rw [e]; exact hz
    · show ∀ x ∈ Mp.putV s.mp c.key c.val, x < 256
      rw [e]; exact (h.mp.byt p hp).2
/-- what a walk reads of a block of four cells -/
theorem four {w : World} {b : Nat} {t : TypeId} {x y z u : Value} (h : Blk w b t #[x, y, z, u]) :
    w.cell? ⟨b, 0, none⟩ = some x ∧ w.cell? ⟨b, 1, none⟩ = some y ∧ w.cell? ⟨b, 2, none⟩ = some z ∧ w.cell? ⟨b, 3, none⟩ = some u ∧ w.frozen? ⟨b, 0, none⟩ = false ∧ w.frozen? ⟨b, 1, none⟩ = false ∧ w.frozen? ⟨b, 2, none⟩ = false ∧ w.frozen? ⟨b, 3, none⟩ = false :=
  ⟨h.cell 0, h.cell 1, h.cell 2, h.cell 3, h.frozen 0, h.frozen 1, h.frozen 2, h.frozen 3⟩
/-- .. of five -/
theorem five {w : World} {b : Nat} {t : TypeId} {x y z u v : Value} (h : Blk w b t #[x, y, z, u, v]) :
    w.cell? ⟨b, 0, none⟩ = some x ∧ w.cell? ⟨b, 1, none⟩ = some y ∧ w.cell? ⟨b, 2, none⟩ = some z ∧ w.cell? ⟨b, 3, none⟩ = some u ∧ w.cell? ⟨b, 4, none⟩ = some v :=
  ⟨h.cell 0, h.cell 1, h.cell 2, h.cell 3, h.cell 4⟩
/-- objects and a result, both W's own -/
def GotO (W w : World) (r : Ans) (en : Ending) (w' : World) : Prop :=
  ∃ a A c, en = .returned (.tuple #[objV a r.s, resV r.e A r.v.length c r.n]) ∧ OwnO W w' a r.s ∧ OwnB W w' A r.v.length c r.v ∧ Below W.heap.size W w' ∧ Below w.heap.size w w'
theorem GotO.of {W w w' : World} {r : Ans} {en : Ending} (hB : Below W.heap.size W w) (h : GotO w w r en w') : GotO W w r en w' := by
  obtain ⟨a, A, c, h1, h2, h3, h4, h5⟩ := h
  exact ⟨a, A, c, h1, h2.of hB.size, more_ hB.size h3, hB.trans (h4.mono hB.size), h5⟩
end Go.Proofs.YtaknfmionkkdjaaGreat

namespace Go.Proofs.YtaknfmionkkdjaaGreat
open Go.RowKit
set_option linter.unusedVariables false
theorem isKind_any (w : World) (k : Int) : Calls Tryz.prog 113 #[.int .i64 k] w fun e w' => e = .returned (.bool (decide (1 ≤ k ∧ k ≤ 11))) ∧ w' = w := by
  by_cases h1 : 1 ≤ k
  · by_cases h2 : k ≤ 11
    · rw [decide_eq_true (show 1 ≤ k ∧ k ≤ 11 from ⟨h1, h2⟩)]
      go_enter Tryz.func113, Tryz.ntmps113
      go_wp2_with fail
      go_ret
      exact ⟨rfl, rfl⟩
    · rw [decide_eq_false (show ¬ (1 ≤ k ∧ k ≤ 11) by omega)]
      go_enter Tryz.func113, Tryz.ntmps113
      go_wp2_with fail
      go_ret
      exact ⟨rfl, rfl⟩
  · rw [decide_eq_false (show ¬ (1 ≤ k ∧ k ≤ 11) by omega)]
    go_enter Tryz.func113, Tryz.ntmps113
    go_wp2_with fail
    go_ret
    exact ⟨rfl, rfl⟩
theorem isWho_any (w : World) (k : Int) : Calls Tryz.prog 114 #[.int .i64 k] w fun e w' => e = .returned (.bool (decide (0 ≤ k ∧ k ≤ 999))) ∧ w' = w := by
  by_cases h1 : 0 ≤ k
  · by_cases h2 : k ≤ 999
    · rw [decide_eq_true (show 0 ≤ k ∧ k ≤ 999 from ⟨h1, h2⟩)]
      go_enter Tryz.func114, Tryz.ntmps114
      go_wp2_with fail
      go_ret
      exact ⟨rfl, rfl⟩
    · rw [decide_eq_false (show ¬ (0 ≤ k ∧ k ≤ 999) by omega)]
      go_enter Tryz.func114, Tryz.ntmps114
      go_wp2_with fail
      go_ret
      exact ⟨rfl, rfl⟩
  · rw [decide_eq_false (show ¬ (0 ≤ k ∧ k ≤ 999) by omega)]
    go_enter Tryz.func114, Tryz.ntmps114
    go_wp2_with fail
    go_ret
    exact ⟨rfl, rfl⟩
theorem isKind_yes (w : World) {k : Int} (h : 1 ≤ k ∧ k ≤ 11) : Calls Tryz.prog 113 #[.int .i64 k] w fun e w' => e = .returned (.bool true) ∧ w' = w := by
  have := isKind_any w k; rwa [decide_eq_true h] at this
theorem isKind_no (w : World) {k : Int} (h : ¬ (1 ≤ k ∧ k ≤ 11)) : Calls Tryz.prog 113 #[.int .i64 k] w fun e w' => e = .returned (.bool false) ∧ w' = w := by
  have := isKind_any w k; rwa [decide_eq_false h] at this
theorem isWho_yes (w : World) {k : Int} (h : 0 ≤ k ∧ k ≤ 999) : Calls Tryz.prog 114 #[.int .i64 k] w fun e w' => e = .returned (.bool true) ∧ w' = w := by
  have := isWho_any w k; rwa [decide_eq_true h] at this
theorem isWho_no (w : World) {k : Int} (h : ¬ (0 ≤ k ∧ k ≤ 999)) : Calls Tryz.prog 114 #[.int .i64 k] w fun e w' => e = .returned (.bool false) ∧ w' = w := by
  have := isWho_any w k; rwa [decide_eq_false h] at this
/-- may a command be handed on? -/
def Cm.known (c : Cm) : Bool := decide (1 ≤ c.kind ∧ c.kind ≤ 11 ∧ (c.kind = 6 ∨ c.kind = 7 → 0 ≤ c.who ∧ c.who ≤ 999))
set_option maxRecDepth 100000 in
set_option maxHeartbeats 2000000 in
theorem isKnown_any (w : World) (ca : CA) (c : Cm) : Calls Tryz.prog 96 #[cmdV ca c] w fun e w' => e = .returned (.bool c.known) ∧ Below w.heap.size w w' := by
  have b0 : Below w.heap.size w (w.alloc (.cells (cmdC ca c) 38)) := (Below.refl _ _).alloc (Nat.le_refl _) _
  obtain ⟨Ak, ck, Av, cv, Ao, co⟩ := ca
  obtain ⟨kind, who, key, val, old⟩ := c
  unfold cmdV
  simp only [cmdC] at b0 ⊢
  have bad : ¬ (1 ≤ kind ∧ kind ≤ 11 ∧ (kind = 6 ∨ kind = 7 → 0 ≤ who ∧ who ≤ 999)) → Cm.known ⟨kind, who, key, val, old⟩ = false := fun h => decide_eq_false h
  have good : (1 ≤ kind ∧ kind ≤ 11 ∧ (kind = 6 ∨ kind = 7 → 0 ≤ who ∧ who ≤ 999)) → Cm.known ⟨kind, who, key, val, old⟩ = true := fun h => decide_eq_true h
  by_cases h1 : 1 ≤ kind ∧ kind ≤ 11
  · have HK := Lib.hid (fun w => isKind_yes w h1)
    by_cases h2 : 0 ≤ who ∧ who ≤ 999
    · have HW := Lib.hid (fun w => isWho_yes w h2)
      rw [good ⟨h1.1, h1.2, fun _ => h2⟩]
      clear bad good
      by_cases h6 : kind = 6
      · subst h6
        clear h1 h2
        go_enter Tryz.func96, Tryz.ntmps96
        go_wp2_with (first
          | (go_at_call 113; refine (HK.out _).mono ?_; rintro e w1 ⟨rfl, rfl⟩)
          | (go_at_call 114; refine (HW.out _).mono ?_; rintro e w1 ⟨rfl, rfl⟩)
          | fail)
        go_ret
        exact ⟨rfl, b0⟩
      · have k6 : (kind == 6) = false := by simp; omega
        clear h1 h2 h6
        go_enter Tryz.func96, Tryz.ntmps96
        go_wp2_with (first
          | (go_at_call 113; refine (HK.out _).mono ?_; rintro e w1 ⟨rfl, rfl⟩)
          | (go_at_call 114; refine (HW.out _).mono ?_; rintro e w1 ⟨rfl, rfl⟩)
          | fail)
        go_ret
        exact ⟨rfl, b0⟩
    · have HW := Lib.hid (fun w => isWho_no w h2)
      by_cases h6 : kind = 6
      · rw [bad (by omega)]
        subst h6
        clear h1 h2 bad good
        go_enter Tryz.func96, Tryz.ntmps96
        go_wp2_with (first
          | (go_at_call 113; refine (HK.out _).mono ?_; rintro e w1 ⟨rfl, rfl⟩)
          | (go_at_call 114; refine (HW.out _).mono ?_; rintro e w1 ⟨rfl, rfl⟩)
          | fail)
        go_ret
        exact ⟨rfl, b0⟩
      · have k6 : (kind == 6) = false := by simp; omega
        by_cases h7 : kind = 7
        · rw [bad (by omega)]
          subst h7
          clear h1 h2 bad good
          go_enter Tryz.func96, Tryz.ntmps96
          go_wp2_with (first
            | (go_at_call 113; refine (HK.out _).mono ?_; rintro e w1 ⟨rfl, rfl⟩)
            | (go_at_call 114; refine (HW.out _).mono ?_; rintro e w1 ⟨rfl, rfl⟩)
            | fail)
          go_ret
          exact ⟨rfl, b0⟩
        · have k7 : (kind == 7) = false := by simp; omega
          rw [good ⟨h1.1, h1.2, fun h => by omega⟩]
          clear h1 h2 h6 h7 bad good
          go_enter Tryz.func96, Tryz.ntmps96
          go_wp2_with (first
            | (go_at_call 113; refine (HK.out _).mono ?_; rintro e w1 ⟨rfl, rfl⟩)
            | (go_at_call 114; refine (HW.out _).mono ?_; rintro e w1 ⟨rfl, rfl⟩)
            | fail)
          go_ret
          exact ⟨rfl, b0⟩
  · have HK := Lib.hid (fun w => isKind_no w h1)
    rw [bad (by omega)]
    clear h1 bad good
    by_cases h6 : kind = 6
    · subst h6
      go_enter Tryz.func96, Tryz.ntmps96
      go_wp2_with (first
        | (go_at_call 113; refine (HK.out _).mono ?_; rintro e w1 ⟨rfl, rfl⟩)
        | fail)
      go_ret
      exact ⟨rfl, b0⟩
    · have k6 : (kind == 6) = false := by simp; omega
      clear h6
      go_enter Tryz.func96, Tryz.ntmps96
      go_wp2_with (first
        | (go_at_call 113; refine (HK.out _).mono ?_; rintro e w1 ⟨rfl, rfl⟩)
        | fail)
      go_ret
      exact ⟨rfl, b0⟩
end Go.Proofs.YtaknfmionkkdjaaGreat

