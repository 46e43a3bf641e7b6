/- ObjKit SamePairs -/
import Derived.Test.YtmekamgohonffaaGreatBT00
import Derived.Test.YtmekamgohonffaaGreatBT04
import Derived.Test.YtmekamgohonffaaGreatBT05
import Derived.Test.YtmekamgohonffaaGreatBT06
import Derived.Test.YtmekamgohonffaaGreatBT08
import Derived.Test.YtmekamgohonffaaGreatBT09
namespace Go.Proofs.YtmekamgohonffaaGreat
open Go.RowKit
set_option linter.unusedVariables false
structure Ob where
 reg : List Nat
 q : List (List Nat)
 lk : List Int
 mp : List Pr
structure Cm where
 kind : Int
 who : Int
 key : List Nat
 val : List Nat
 old : List Nat
structure OA where
 A0 : Option Addr
 c0 : Nat
 A1 : Option Addr
 c1 : Nat
 A2 : Option Addr
 c2 : Nat
 A3 : Option Addr
 c3 : Nat
structure CA where
 Ak : Option Addr
 ck : Nat
 Av : Option Addr
 cv : Nat
 Ao : Option Addr
 co : Nat
def objC (a : OA) (s : Ob) : Array Value := #[.slice a.A0 s.reg.length a.c0, .slice a.A1 s.q.length a.c1, .slice a.A2 s.lk.length a.c2, .slice a.A3 s.mp.length a.c3]
def cmdC (a : CA) (c : Cm) : Array Value := #[.int .i64 c.kind, .int .i64 c.who, .slice a.Ak c.key.length a.ck, .slice a.Av c.val.length a.cv, .slice a.Ao c.old.length a.co]
def objV (a : OA) (s : Ob) : Value := .agg (objC a s)
def cmdV (a : CA) (c : Cm) : Value := .agg (cmdC a c)
structure RdO (w : World) (B : Nat) (a : OA) (s : Ob) : Prop where
 r0 : Rd w B a.A0 s.reg.length (bv s.reg)
 r1 : RdQ w B a.A1 s.q.length s.q
 r2 : Rd w B a.A2 s.lk.length (iv s.lk)
 r3 : RdP w B a.A3 s.mp.length s.mp
 l1 : s.q.length <= a.c1
 l2 : s.lk.length <= a.c2
 l3 : s.mp.length <= a.c3
structure RdC (w : World) (B : Nat) (a : CA) (c : Cm) : Prop where
 rk : Rd w B a.Ak c.key.length (bv c.key)
 rv : Rd w B a.Av c.val.length (bv c.val)
 ro : Rd w B a.Ao c.old.length (bv c.old)
structure OwnO (W w : World) (a : OA) (s : Ob) : Prop where
 o0 : OwnB W w a.A0 s.reg.length a.c0 s.reg
 o1 : OwnQ W w a.A1 s.q.length a.c1 s.q
 o2 : OwnI W w a.A2 s.lk.length a.c2 s.lk
 o3 : OwnP W w a.A3 s.mp.length a.c3 s.mp
section
variable {W w w' : World} {B : Nat} {a : OA} {ca : CA} {s : Ob} {c : Cm}
theorem RdO.below (h : RdO w B a s) (hb : Below B w w') : RdO w' B a s := ⟨h.r0.below hb, h.r1.below hb, h.r2.below hb, h.r3.below hb, h.l1, h.l2, h.l3⟩
theorem RdO.fit (h : RdO w B a s) : RdO w w.heap.size a s := ⟨h.r0.fit, h.r1.fit, h.r2.fit, h.r3.fit, h.l1, h.l2, h.l3⟩
theorem RdC.below (h : RdC w B ca c) (hb : Below B w w') : RdC w' B ca c := ⟨h.rk.below hb, h.rv.below hb, h.ro.below hb⟩
theorem RdC.fit (h : RdC w B ca c) : RdC w w.heap.size ca c := ⟨h.rk.fit, h.rv.fit, h.ro.fit⟩
theorem RdC.below' (h : RdC w w.heap.size ca c) (hb : Below w.heap.size w w') : RdC w' w'.heap.size ca c := (h.below hb).fit
theorem OwnQ.cap {W w : World} {A : Option Addr} {n c : Nat} {qs : List (List Nat)} (h : OwnQ W w A n c qs) : n <= c := by obtain ⟨vs, h1, _⟩ := h; exact (own_cap h1).1
theorem OwnO.rd (h : OwnO W w a s) : RdO w w.heap.size a s := ⟨Rd.own_ h.o0, h.o1.rd, Rd.own_ h.o2, h.o3.rd, h.o1.cap, (own_cap h.o2).1, h.o3.cap⟩
theorem OwnO.below (h : OwnO W w a s) (hb : Below w.heap.size w w') : OwnO W w' a s := ⟨own_below h.o0 hb, h.o1.below hb, ownsRow_below h.o2 hb, h.o3.below hb⟩
theorem OwnO.of {W w w' : World} (hs : W.heap.size <= w.heap.size) (h : OwnO w w' a s) : OwnO W w' a s := ⟨more_ hs h.o0, h.o1.of hs, more_ hs h.o2, h.o3.of hs⟩
theorem OwnO.set_t {b i : Nat} {t : TypeId} {u : Value} {cs : Array Value} (h : OwnO W w a s) (hb : Blk w b t cs) (h1 : 5 ≠ t) (h2 : 23 ≠ t) (h3 : 3 ≠ t) (h4 : 74 ≠ t) : OwnO W (w.setCell ⟨b, i, none⟩ u) a s :=
 ⟨own_set_t h.o0 hb h1, h.o1.set_t hb h1 h2, own_set_t h.o2 hb h3, h.o3.set_t hb h1 h4⟩
end
structure Ob.Inv (s : Ob) : Prop where
 reg : s.reg.length <= 16
 regb : ∀ x ∈ s.reg, x < 256
 ql : s.q.length <= 8
 qv : ∀ l ∈ s.q, l.length <= 16
 qb : BytesL s.q
 lkl : s.lk.length <= 5
 lkn : s.lk.Nodup
 mp : Mp.Inv s.mp
structure Cm.Fits (c : Cm) : Prop where
 key : c.key.length <= 100 /\ ∀ x ∈ c.key, x < 256
 val : c.val.length <= 100 /\ ∀ x ∈ c.val, x < 256
 old : c.old.length <= 100 /\ ∀ x ∈ c.old, x < 256
structure Ans where
 s : Ob
 e : Int
 v : List Nat
 n : Int
def Ob.apply (s : Ob) (c : Cm) : Ans :=
 if c.kind = 1 then ⟨s, 0, s.reg, 0⟩
 else if c.kind = 2 then ⟨{ s with reg := if c.val.length <= 16 then c.val else s.reg }, if c.val.length <= 16 then 0 else 1, [], 0⟩
 else if c.kind = 3 then ⟨{ s with reg := casS s.reg c.old c.val }, casE s.reg c.old c.val, casV s.reg c.old c.val, 0⟩
 else if c.kind = 4 then ⟨{ s with q := pushS s.q c.val }, pushE s.q c.val, [], pushN s.q c.val⟩
 else if c.kind = 5 then ⟨{ s with q := s.q.tail }, popE s.q, popV s.q, 0⟩
 else if c.kind = 6 /\ 0 <= c.who /\ c.who <= 999 then ⟨{ s with lk := takeS s.lk c.who }, takeE s.lk c.who, [], takeN s.lk c.who⟩
 else if c.kind = 7 /\ 0 <= c.who /\ c.who <= 999 then ⟨{ s with lk := s.lk.erase c.who }, freeE s.lk c.who, [], freeN s.lk c.who⟩
 else if c.kind = 8 then ⟨s, ownerE s.lk, [], ownerN s.lk⟩
 else if c.kind = 9 then ⟨{ s with mp := Mp.putS s.mp c.key c.val }, Mp.putE s.mp c.key c.val, Mp.putV s.mp c.key c.val, Mp.putN s.mp c.key c.val⟩
 else if c.kind = 10 then ⟨s, Mp.getE s.mp c.key, Mp.getV s.mp c.key, 0⟩
 else if c.kind = 11 then ⟨{ s with mp := Mp.delS s.mp c.key }, Mp.getE s.mp c.key, Mp.getV s.mp c.key, 0⟩
 else ⟨s, 7, [], 0⟩
theorem Ob.apply_ind {P : Ans -> Prop} (s : Ob) (c : Cm)
 (h1 : c.kind = 1 -> P ⟨s, 0, s.reg, 0⟩)
 (h2 : c.kind = 2 -> P ⟨{ s with reg := if c.val.length <= 16 then c.val else s.reg }, if c.val.length <= 16 then 0 else 1, [], 0⟩)
 (h3 : c.kind = 3 -> P ⟨{ s with reg := casS s.reg c.old c.val }, casE s.reg c.old c.val, casV s.reg c.old c.val, 0⟩)
 (h4 : c.kind = 4 -> P ⟨{ s with q := pushS s.q c.val }, pushE s.q c.val, [], pushN s.q c.val⟩)
 (h5 : c.kind = 5 -> P ⟨{ s with q := s.q.tail }, popE s.q, popV s.q, 0⟩)
 (h6 : c.kind = 6 /\ 0 <= c.who /\ c.who <= 999 -> P ⟨{ s with lk := takeS s.lk c.who }, takeE s.lk c.who, [], takeN s.lk c.who⟩)
 (h7 : c.kind = 7 /\ 0 <= c.who /\ c.who <= 999 -> P ⟨{ s with lk := s.lk.erase c.who }, freeE s.lk c.who, [], freeN s.lk c.who⟩)
 (h8 : c.kind = 8 -> P ⟨s, ownerE s.lk, [], ownerN s.lk⟩)
 (h9 : c.kind = 9 -> P ⟨{ s with mp := Mp.putS s.mp c.key c.val }, Mp.putE s.mp c.key c.val, Mp.putV s.mp c.key c.val, Mp.putN s.mp c.key c.val⟩)
 (h10 : c.kind = 10 -> P ⟨s, Mp.getE s.mp c.key, Mp.getV s.mp c.key, 0⟩)
 (h11 : c.kind = 11 -> P ⟨{ s with mp := Mp.delS s.mp c.key }, Mp.getE s.mp c.key, Mp.getV s.mp c.key, 0⟩)
 (h0 : P ⟨s, 7, [], 0⟩) : P (s.apply c) := by
 unfold Ob.apply
 by_cases c1 : c.kind = 1
 · rw [if_pos c1]; exact h1 c1
 rw [if_neg c1]
 by_cases c2 : c.kind = 2
 · rw [if_pos c2]; exact h2 c2
 rw [if_neg c2]
 by_cases c3 : c.kind = 3
 · rw [if_pos c3]; exact h3 c3
 rw [if_neg c3]
 by_cases c4 : c.kind = 4
 · rw [if_pos c4]; exact h4 c4
 rw [if_neg c4]
 by_cases c5 : c.kind = 5
 · rw [if_pos c5]; exact h5 c5
 rw [if_neg c5]
 by_cases c6 : c.kind = 6 /\ 0 <= c.who /\ c.who <= 999
 · rw [if_pos c6]; exact h6 c6
 rw [if_neg c6]
 by_cases c7 : c.kind = 7 /\ 0 <= c.who /\ c.who <= 999
 · rw [if_pos c7]; exact h7 c7
 rw [if_neg c7]
 by_cases c8 : c.kind = 8
 · rw [if_pos c8]; exact h8 c8
 rw [if_neg c8]
 by_cases c9 : c.kind = 9
 · rw [if_pos c9]; exact h9 c9
 rw [if_neg c9]
 by_cases c10 : c.kind = 10
 · rw [if_pos c10]; exact h10 c10
 rw [if_neg c10]
 by_cases c11 : c.kind = 11
 · rw [if_pos c11]; exact h11 c11
 rw [if_neg c11]
 exact h0
theorem Ob.Inv.nil : Ob.Inv ⟨[], [], [], []⟩ := ⟨by simp, by simp, by simp, by simp, by intro l h; simp at h, by simp, by simp, Mp.Inv.nil⟩
theorem takeO_len (s : List Int) (x : Int) (h : s.length <= 5) : (takeS s x).length <= 5 := by
 unfold takeS; split
 · exact h
 · split
   · exact h
   · simp; omega
theorem takeO_nodup (s : List Int) (x : Int) (h : s.Nodup) : (takeS s x).Nodup := by
 unfold takeS; split
 · exact h
 · rename_i hx
   split
   · exact h
   · rw [List.nodup_append]
     exact ⟨h, by simp, fun a ha b hb => by simp at hb; subst hb; intro e; subst e; exact hx ha⟩
theorem Ob.Inv.apply {s : Ob} {c : Cm} (h : s.Inv) (hc : c.Fits) : (s.apply c).s.Inv := by
 refine Ob.apply_ind (P := fun r => r.s.Inv) s c (fun _ => h) (fun _ => ?_) (fun _ => ?_) (fun _ => ?_) (fun _ => ?_) (fun _ => ?_) (fun _ => ?_) (fun _ => h) (fun _ => ?_) (fun _ => h) (fun _ => ?_) h
 · by_cases hl : c.val.length <= 16
   · exact ⟨by simp only [if_pos hl]; exact hl, by simp only [if_pos hl]; exact hc.val.2, h.ql, h.qv, h.qb, h.lkl, h.lkn, h.mp⟩
   · exact ⟨by simp only [if_neg hl]; exact h.reg, by simp only [if_neg hl]; exact h.regb, h.ql, h.qv, h.qb, h.lkl, h.lkn, h.mp⟩
 · refine ⟨?_, casS_lt _ h.regb hc.val.2, h.ql, h.qv, h.qb, h.lkl, h.lkn, h.mp⟩
   show (casS s.reg c.old c.val).length <= 16
   unfold casS
   by_cases hl : 16 < c.val.length
   · rw [if_pos hl]; exact h.reg
   · rw [if_neg hl]
     by_cases he : s.reg = c.old
     · rw [if_pos he]; omega
     · rw [if_neg he]; exact h.reg
 · have hq : (pushS s.q c.val).length <= 8 /\ ∀ l ∈ pushS s.q c.val, l.length <= 16 /\ ∀ x ∈ l, x < 256 := by
    unfold pushS
    by_cases hl : 16 < c.val.length
    · rw [if_pos hl]; exact ⟨h.ql, fun l hl => ⟨h.qv l hl, h.qb l hl⟩⟩
    · rw [if_neg hl]
      by_cases h8 : 8 <= s.q.length
      · rw [if_pos h8]; exact ⟨h.ql, fun l hl => ⟨h.qv l hl, h.qb l hl⟩⟩
      · rw [if_neg h8]
        refine ⟨by simp; omega, fun l hm => ?_⟩
        rcases List.mem_append.1 hm with hm | hm
        · exact ⟨h.qv l hm, h.qb l hm⟩
        · have e : l = c.val := by simpa using hm
          rw [e]; exact ⟨by omega, hc.val.2⟩
   exact ⟨h.reg, h.regb, hq.1, fun l hl => (hq.2 l hl).1, fun l hl => (hq.2 l hl).2, h.lkl, h.lkn, h.mp⟩
 · exact ⟨h.reg, h.regb, by have := h.ql; show s.q.tail.length <= 8; simp; omega, fun l hl => h.qv l (List.mem_of_mem_tail hl), fun l hl => h.qb l (List.mem_of_mem_tail hl), h.lkl, h.lkn, h.mp⟩
 · exact ⟨h.reg, h.regb, h.ql, h.qv, h.qb, takeO_len _ _ h.lkl, takeO_nodup _ _ h.lkn, h.mp⟩
 · exact ⟨h.reg, h.regb, h.ql, h.qv, h.qb, Nat.le_trans List.length_erase_le h.lkl, h.lkn.erase _, h.mp⟩
 · exact ⟨h.reg, h.regb, h.ql, h.qv, h.qb, h.lkl, h.lkn, h.mp.put hc.key.2 hc.val.2⟩
 · exact ⟨h.reg, h.regb, h.ql, h.qv, h.qb, h.lkl, h.lkn, h.mp.del⟩
theorem Ob.apply_vb {s : Ob} {c : Cm} (h : s.Inv) : ∀ x ∈ (s.apply c).v, x < 256 := by
 have hz : ∀ x ∈ ([] : List Nat), x < 256 := by intro x hx; cases hx
 have hg : ∀ x ∈ Mp.getV s.mp c.key, x < 256 := by
  rcases Mp.getV_mem (ps := s.mp) (k := c.key) with e | ⟨p, hp, e⟩
  · rw [e]; exact hz
  · rw [e]; exact (h.mp.byt p hp).2
 refine Ob.apply_ind (P := fun r => ∀ x ∈ r.v, x < 256) s c (fun _ => h.regb) (fun _ => hz) (fun _ => casV_lt _ _ h.regb) (fun _ => hz) (fun _ => ?_) (fun _ => hz) (fun _ => hz) (fun _ => hz) (fun _ => ?_) (fun _ => hg) (fun _ => hg) hz
 · intro x hx
   have hx : x ∈ popV s.q := hx
   unfold popV at hx
   cases hq : s.q with
   | nil => rw [hq] at hx; simp at hx
   | cons l t => rw [hq] at hx; exact h.qb l (by rw [hq]; simp) x (by simpa using hx)
 · rcases Mp.putV_mem (ps := s.mp) (k := c.key) (v := c.val) with e | ⟨p, hp, e⟩
   · show ∀ x ∈ Mp.putV s.mp c.key c.val, x < 256
     rw [e]; exact hz
   · show ∀ x ∈ Mp.putV s.mp c.key c.val, x < 256
     rw [e]; exact (h.mp.byt p hp).2
theorem four {w : World} {b : Nat} {t : TypeId} {x y z u : Value} (h : Blk w b t #[x, y, z, u]) :
 w.cell? ⟨b, 0, none⟩ = some x /\ w.cell? ⟨b, 1, none⟩ = some y /\ w.cell? ⟨b, 2, none⟩ = some z /\ w.cell? ⟨b, 3, none⟩ = some u /\ w.frozen? ⟨b, 0, none⟩ = false /\ w.frozen? ⟨b, 1, none⟩ = false /\ w.frozen? ⟨b, 2, none⟩ = false /\ w.frozen? ⟨b, 3, none⟩ = false :=
 ⟨h.cell 0, h.cell 1, h.cell 2, h.cell 3, h.frozen 0, h.frozen 1, h.frozen 2, h.frozen 3⟩
theorem five {w : World} {b : Nat} {t : TypeId} {x y z u v : Value} (h : Blk w b t #[x, y, z, u, v]) :
 w.cell? ⟨b, 0, none⟩ = some x /\ w.cell? ⟨b, 1, none⟩ = some y /\ w.cell? ⟨b, 2, none⟩ = some z /\ w.cell? ⟨b, 3, none⟩ = some u /\ w.cell? ⟨b, 4, none⟩ = some v :=
 ⟨h.cell 0, h.cell 1, h.cell 2, h.cell 3, h.cell 4⟩
def GotO (W w : World) (r : Ans) (en : Ending) (w' : World) : Prop :=
 ∃ a A c, en = .returned (.tuple #[objV a r.s, resV r.e A r.v.length c r.n]) /\ OwnO W w' a r.s /\ OwnB W w' A r.v.length c r.v /\ Below W.heap.size W w' /\ Below w.heap.size w w'
theorem GotO.of {W w w' : World} {r : Ans} {en : Ending} (hB : Below W.heap.size W w) (h : GotO w w r en w') : GotO W w r en w' := by
 obtain ⟨a, A, c, h1, h2, h3, h4, h5⟩ := h
 exact ⟨a, A, c, h1, h2.of hB.size, more_ hB.size h3, hB.trans (h4.mono hB.size), h5⟩
set_option maxRecDepth 100000 in
set_option maxHeartbeats 2000000 in
theorem samePs_any (w : World) {A A' : Option Addr} {n c n' c' B B' : Nat} {ps ps' : List Pr} (hn : n <= 100000) (hn' : n' <= 100000) (hb : BytesP ps) (hb' : BytesP ps') (h : RdP w B A n ps) (h' : RdP w B' A' n' ps') :
 Calls Tryz.prog 81 #[.slice A n c, .slice A' n' c'] w fun e w' => e = .returned (.bool (decide (ps = ps'))) /\ ∃ m, w' = w.drewN m := by
 have hl : ps.length = n := h.length
 have hl' : ps'.length = n' := h'.length
 by_cases hne : n = n'
 · subst hne
   have HL := hD hl
   have HL' := hD hl'
   have H := hD h.fit
   have H' := hD h'.fit
   have HB := hD hb
   have HB' := hD hb'
   clear h h' hl hl' hb hb'
   go_enter Tryz.func81, Tryz.ntmps81
   go_wp2
   go_loopw [5] (fun i wr => ∃ j : Nat, j <= n /\ i = .int .i64 j /\ Hid (∀ i, i < j -> ps[i]? = ps'[i]?) /\ ∃ m, wr = w.drewN m) (fun i _ => n - (intOf i).toNat)
   case atStart => exact ⟨0, Nat.zero_le _, rfl, hD (fun i hi => absurd hi (by omega)), 0, rfl⟩
   case round =>
    obtain ⟨j, hj, rfl, HS, m, hm⟩ := hrel
    have HM := hD hm
    by_cases hlt : j < n
    · obtain ⟨b, o, p, A1, c1, A2, c2, rfl, hp, hcell1, hcell2, hrd1, hrd2⟩ := H.out.at hlt
      obtain ⟨b', o', p', A3, c3, A4, c4, rfl, hp', hcell3, hcell4, hrd3, hrd4⟩ := H'.out.at hlt
      have q1 : wr.cell? ⟨b, o + j * 2, none⟩ = some (.slice A1 p.1.length c1) := by rw [hm]; exact hcell1
      have q2 : wr.cell? ⟨b, o + j * 2 + 1, none⟩ = some (.slice A2 p.2.length c2) := by rw [hm]; exact hcell2
      have q3 : wr.cell? ⟨b', o' + j * 2, none⟩ = some (.slice A3 p'.1.length c3) := by rw [hm]; exact hcell3
      have q4 : wr.cell? ⟨b', o' + j * 2 + 1, none⟩ = some (.slice A4 p'.2.length c4) := by rw [hm]; exact hcell4
      have hv : IntKind.i64.wrap ((j : Int) + 1) = (j : Int) + 1 := IntWalk.i64_in _ (by omega)
      have s1 : ∀ q, (convert 23 9 (.slice A1 p.1.length c1)).run Tryz.prog (wr.drewN q) = .ok (.string (strB p.1)) (wr.drewN q) := fun q => by rw [hm]; exact str_of (c := c1) ((hrd1.drewN m).drewN q)
      have s2 : ∀ q, (convert 23 9 (.slice A2 p.2.length c2)).run Tryz.prog (wr.drewN q) = .ok (.string (strB p.2)) (wr.drewN q) := fun q => by rw [hm]; exact str_of (c := c2) ((hrd2.drewN m).drewN q)
      have s3 : ∀ q, (convert 23 9 (.slice A3 p'.1.length c3)).run Tryz.prog (wr.drewN q) = .ok (.string (strB p'.1)) (wr.drewN q) := fun q => by rw [hm]; exact str_of (c := c3) ((hrd3.drewN m).drewN q)
      have s4 : ∀ q, (convert 23 9 (.slice A4 p'.2.length c4)).run Tryz.prog (wr.drewN q) = .ok (.string (strB p'.2)) (wr.drewN q) := fun q => by rw [hm]; exact str_of (c := c4) ((hrd4.drewN m).drewN q)
      have t1 := strL_eq (HB.out p (List.mem_of_getElem? hp)).1 (HB'.out p' (List.mem_of_getElem? hp')).1
      have t2 := strL_eq (HB.out p (List.mem_of_getElem? hp)).2 (HB'.out p' (List.mem_of_getElem? hp')).2
      have HP := hD hp
      have HP' := hD hp'
      clear hp hp' hcell1 hcell2 hcell3 hcell4 hrd1 hrd2 hrd3 hrd4 hm
      have HNE : Hid (p ≠ p' -> decide (ps = ps') = false) := hD (fun hne => by
       rw [decide_eq_false_iff_not]
       rintro rfl
       have h1 := HP.out
       rw [HP'.out] at h1
       injection h1 with h1
       exact hne h1.symm)
      by_cases he1 : p.1 = p'.1
      · rw [decide_eq_true he1] at t1
        by_cases he2 : p.2 = p'.2
        · rw [decide_eq_true he2] at t2
          have HE := hD (show p = p' from Prod.ext he1 he2)
          clear he1 he2
          go_wp2
          go_quiet (fail)
          go_wp2
          go_roundw
          case rel =>
           refine ⟨j + 1, by omega, by go_num, hD (fun i hi => ?_), m + nq, by rw [HM.out, World.drewN_drewN]⟩
           rcases Nat.lt_or_ge i j with h1 | h1
           · exact HS.out i h1
           · obtain rfl : i = j := by omega
             rw [HP.out, HP'.out, HE.out]
          case measure => simp [intOf]; omega
        · rw [decide_eq_false he2] at t2
          have HE := hD (HNE.out (fun e => he2 (by rw [e])))
          clear he1 he2
          go_wp2
          go_quiet (fail)
          go_wp2
          go_ret
          exact ⟨ret_bool HE.out.symm, m + nq, by rw [HM.out, World.drewN_drewN]⟩
      · rw [decide_eq_false he1] at t1
        have HE := hD (HNE.out (fun e => he1 (by rw [e])))
        clear he1
        go_wp2
        go_quiet (fail)
        go_wp2
        go_ret
        exact ⟨ret_bool HE.out.symm, m + nq, by rw [HM.out, World.drewN_drewN]⟩
    · have HE := hD (show decide (ps = ps') = true by
       rw [decide_eq_true_iff]
       apply List.ext_getElem?
       intro i
       rcases Nat.lt_or_ge i n with h1 | h1
       · exact HS.out i (by omega)
       · rw [List.getElem?_eq_none (by have := HL.out; omega), List.getElem?_eq_none (by have := HL'.out; omega)])
      clear hm
      go_wp2
      go_ret
      exact ⟨ret_bool HE.out.symm, m, HM.out⟩
 · have HE := hD (show decide (ps = ps') = false by rw [decide_eq_false_iff_not]; rintro rfl; omega)
   have hd : ((n : Int) == (n' : Int)) = false := by simp; omega
   have hd2 : ((n : Int) != (n' : Int)) = true := by simp; omega
   clear h h' hl hl' hne
   go_enter Tryz.func81, Tryz.ntmps81
   go_wp2
   go_ret
   exact ⟨ret_bool HE.out.symm, 0, rfl⟩
theorem samePs_below (w : World) {A A' : Option Addr} {n c n' c' B B' : Nat} {ps ps' : List Pr} (hn : n <= 100000) (hn' : n' <= 100000) (hb : BytesP ps) (hb' : BytesP ps') (h : RdP w B A n ps) (h' : RdP w B' A' n' ps') :
 Calls Tryz.prog 81 #[.slice A n c, .slice A' n' c'] w fun e w' => e = .returned (.bool (decide (ps = ps'))) /\ Below w.heap.size w w' :=
 (samePs_any w hn hn' hb hb' h h').mono fun e w' ⟨h1, m, h2⟩ => ⟨h1, by rw [h2]; exact belowN_d m⟩
end Go.Proofs.YtmekamgohonffaaGreat
