/- PackMath MachMath MachKit MachBytes MachBytes2 MachC0 ConstKit OnlyKit MachAwake MapsRef MapsRef2 MapsRef3 MapsRef4 BitsKit -/
import Derived.Test.YthfnnieklkaefaaGreatR01
import Derived.Test.YthfnnieklkaefaaGreatR02
import Derived.Deep.DeepCutAuto
import Derived.Deep.RegionHeld3
import Derived.BigQuiet
import Derived.Deep.QuietTactic
import Derived.Deep.RegionLaw
import Derived.Deep.RegionWith
import Derived.Deep.CutBlock
import Derived.IntWalk
import Derived.Laws.BitsAllLaws
namespace Go.Proofs.YthfnnieklkaefaaGreat
namespace Pk
/-- the greatest number -/
def top : Nat := 4611686018427387904
/-- the nearest number that may be -/
def held (n : Int) : Nat := min n.toNat top
theorem held_le (n : Int) : held n ≤ top := Nat.min_le_right _ _
theorem held_of {n : Nat} (h : n ≤ top) : held (n : Int) = n := by unfold held; omega
/-- groups of seven bits, the lowest first; at most f more -/
def encF : Nat → Nat → List Nat
  | 0, n => [n]
  | f + 1, n => if n < 128 then [n] else (n % 128 + 128) :: encF f (n / 128)
def enc (n : Nat) : List Nat := encF 8 n
theorem encF_more : ∀ (f n : Nat), n < 128 ^ (f + 1) → encF f n = encF (f + 1) n := by
  intro f
  induction f with
  | zero => intro n h; have h' : n < 128 := by simpa using h
            simp [encF, h']
  | succ f ih =>
    intro n h
    show (if n < 128 then [n] else (n % 128 + 128) :: encF f (n / 128)) = (if n < 128 then [n] else (n % 128 + 128) :: encF (f + 1) (n / 128))
    rw [ih (n / 128) (by rw [Nat.pow_succ] at h; exact Nat.div_lt_of_lt_mul (by omega))]
theorem enc_small {n : Nat} (h : n < 128) : enc n = [n] := by simp [enc, encF, h]
theorem enc_big {n : Nat} (h : 128 ≤ n) (ht : n ≤ top) : enc n = (n % 128 + 128) :: enc (n / 128) := by
  have e : encF 7 (n / 128) = encF 8 (n / 128) := encF_more 7 _ (by unfold top at ht; omega)
  unfold enc
  rw [← e]
  show (if n < 128 then [n] else (n % 128 + 128) :: encF 7 (n / 128)) = _
  rw [if_neg (by omega)]
theorem encF_length : ∀ (f n : Nat), 1 ≤ (encF f n).length ∧ (encF f n).length ≤ f + 1 := by
  intro f
  induction f with
  | zero => intro n; simp [encF]
  | succ f ih =>
    intro n
    have := ih (n / 128)
    unfold encF
    split
    · simp
    · simp only [List.length_cons]; omega
theorem enc_length (n : Nat) : 1 ≤ (enc n).length ∧ (enc n).length ≤ 9 := encF_length 8 n
theorem enc_lt {n : Nat} (h : n ≤ top) : ∀ x ∈ enc n, x < 256 := by
  have key : ∀ (f n : Nat), n < 128 ^ (f + 1) → ∀ x ∈ encF f n, x < 256 := by
    intro f
    induction f with
    | zero => intro n h x hx; simp [encF] at hx; subst hx; simp at h; omega
    | succ f ih =>
      intro n h x hx
      unfold encF at hx
      split at hx
      · simp at hx; omega
      · rcases List.mem_cons.1 hx with rfl | hx
        · omega
        · exact ih (n / 128) (by rw [Nat.pow_succ] at h; exact Nat.div_lt_of_lt_mul (by omega)) x hx
  exact key 8 n (by unfold top at h; omega)
/-- the number at the head, and how many bytes it takes: 0 where none is there in its one form; i bytes are read, and say acc -/
def dec : Nat → Nat → List Nat → Nat × Nat
  | _, _, [] => (0, 0)
  | i, acc, x :: l =>
    if 9 ≤ i then (0, 0)
    else if 128 ≤ x then dec (i + 1) (acc + x % 128 * 128 ^ i) l
    else if x = 0 ∧ 0 < i then (0, 0)
    else (acc + x * 128 ^ i, i + 1)
def first (l : List Nat) : Nat × Nat := dec 0 0 l
theorem dec_enc : ∀ (f i n acc : Nat) (rest : List Nat), n < 128 ^ (f + 1) → i + f ≤ 8 → (0 < i → 0 < n) → dec i acc (encF f n ++ rest) = (acc + n * 128 ^ i, i + (encF f n).length) := by
  intro f
  induction f with
  | zero =>
    intro i n acc rest h hi h0
    have h' : n < 128 := by simpa using h
    show dec i acc (n :: rest) = _
    simp only [dec]
    rw [if_neg (by omega), if_neg (by omega), if_neg (by omega)]; rfl
  | succ f ih =>
    intro i n acc rest h hi h0
    by_cases hs : n < 128
    · have e : encF (f + 1) n = [n] := by unfold encF; rw [if_pos hs]
      rw [e]
      show dec i acc (n :: rest) = _
      simp only [dec]
      rw [if_neg (by omega), if_neg (by omega), if_neg (by omega)]; rfl
    · have e : encF (f + 1) n = (n % 128 + 128) :: encF f (n / 128) := by
        show (if n < 128 then [n] else (n % 128 + 128) :: encF f (n / 128)) = _
        rw [if_neg hs]
      rw [e]
      show dec i acc ((n % 128 + 128) :: (encF f (n / 128) ++ rest)) = _
      simp only [dec]
      rw [if_neg (by omega), if_pos (by omega), ih (i + 1) (n / 128) _ rest (by rw [Nat.pow_succ] at h; exact Nat.div_lt_of_lt_mul (by omega)) (by omega) (by omega)]
      simp only [List.length_cons, Prod.mk.injEq]
      constructor
      · have e1 : (n % 128 + 128) % 128 = n % 128 := by omega
        have e2 : n % 128 * 128 ^ i + n / 128 * 128 ^ (i + 1) = n * 128 ^ i := by
          have h1 : n / 128 * 128 ^ (i + 1) = n / 128 * 128 * 128 ^ i := by rw [Nat.pow_succ]; rw [Nat.mul_comm (128 ^ i) 128, ← Nat.mul_assoc]
          rw [h1, ← Nat.add_mul]
          congr 1
          omega
        rw [e1]; omega
      · omega
theorem first_enc {n : Nat} (h : n ≤ top) (rest : List Nat) : first (enc n ++ rest) = (n, (enc n).length) := by
  have := dec_enc 8 0 n 0 rest (by unfold top at h; omega) (by omega) (by omega)
  simpa [first, enc] using this
theorem dec_size : ∀ (l : List Nat) (i acc : Nat), (dec i acc l).2 = 0 ∨ (i < (dec i acc l).2 ∧ (dec i acc l).2 ≤ i + l.length ∧ (dec i acc l).2 ≤ 9) := by
  intro l
  induction l with
  | nil => intro i acc; left; rfl
  | cons x l ih =>
    intro i acc
    simp only [dec]
    split
    · left; rfl
    · split
      · have := ih (i + 1) (acc + x % 128 * 128 ^ i)
        simp only [List.length_cons]
        omega
      · split
        · left; rfl
        · right
          simp only [List.length_cons]
          omega
theorem first_size (l : List Nat) : (first l).2 ≤ l.length ∧ (first l).2 ≤ 9 := by
  have := dec_size l 0 0
  unfold first
  omega
/-- one number read out of l, of at most m -/
def rNum (l : List Nat) (m : Nat) : Option (Nat × List Nat) := if (first l).2 = 0 ∨ m < (first l).1 then none else some ((first l).1, l.drop (first l).2)
/-- a reader that read nothing that is none: what is left; one that did: none -/
abbrev St := Option (List Nat)
def numN (s : St) (m : Int) : Option (Nat × List Nat) := s.bind fun l => rNum l (held m)
def numV (s : St) (m : Int) : Nat := ((numN s m).map (·.1)).getD 0
def numS (s : St) (m : Int) : St := (numN s m).map (·.2)
def bytN (s : St) (m : Int) : Option (List Nat × List Nat) := (numN s m).bind fun p => if p.2.length < p.1 then none else some (p.2.take p.1, p.2.drop p.1)
def bytV (s : St) (m : Int) : List Nat := ((bytN s m).map (·.1)).getD []
def bytS (s : St) (m : Int) : St := (bytN s m).map (·.2)
theorem byt_of {s : St} {m : Int} (h : ¬ ((numS s m).getD []).length < numV s m) : bytV s m = ((numS s m).getD []).take (numV s m) ∧ bytS s m = (numS s m).map (List.drop (numV s m)) := by
  unfold bytV bytS bytN
  unfold numS numV at *
  cases hn : numN s m with
  | none => exact ⟨rfl, rfl⟩
  | some p =>
    rw [hn] at h
    have h' : ¬ p.2.length < p.1 := h
    simp [h']
theorem byt_no {s : St} {m : Int} (h : ((numS s m).getD []).length < numV s m) : bytV s m = [] ∧ bytS s m = none := by
  unfold bytV bytS bytN
  unfold numS numV at *
  cases hn : numN s m with
  | none => exact ⟨rfl, rfl⟩
  | some p =>
    rw [hn] at h
    have h' : p.2.length < p.1 := h
    simp [h']
theorem rNum_enc {n : Nat} (h : n ≤ top) (rest : List Nat) (m : Nat) (hm : n ≤ m) : rNum (enc n ++ rest) m = some (n, rest) := by
  unfold rNum
  rw [first_enc h]
  have := enc_length n
  simp only
  rw [if_neg (by omega), List.drop_left']
  rfl
/-- the bytes of some bytes: their length, and they -/
def encB (x : List Nat) : List Nat := enc x.length ++ x
theorem numN_enc {n : Nat} (h : n ≤ top) (rest : List Nat) (m : Int) (hm : n ≤ held m) : numN (some (enc n ++ rest)) m = some (n, rest) := rNum_enc h rest _ hm
theorem bytN_enc (x rest : List Nat) (m : Int) (h : x.length ≤ top) (hm : x.length ≤ held m) : bytN (some (encB x ++ rest)) m = some (x, rest) := by
  unfold bytN encB
  rw [List.append_assoc, numN_enc h _ _ hm]
  simp only [Option.bind_some]
  rw [if_neg (by simp), List.take_left', List.drop_left'] <;> rfl
theorem numV_is {s : St} {m : Int} {n : Nat} {l : List Nat} (h : numN s m = some (n, l)) : numV s m = n ∧ numS s m = some l := by
  unfold numV numS; rw [h]; exact ⟨rfl, rfl⟩
theorem numV_no {s : St} {m : Int} (h : numN s m = none) : numV s m = 0 ∧ numS s m = none := by
  unfold numV numS; rw [h]; exact ⟨rfl, rfl⟩
theorem bytV_is {s : St} {m : Int} {x l : List Nat} (h : bytN s m = some (x, l)) : bytV s m = x ∧ bytS s m = some l := by
  unfold bytV bytS; rw [h]; exact ⟨rfl, rfl⟩
/-- numbers, one behind the other -/
def encs : List Int → List Nat
  | [] => []
  | z :: zs => enc (held z) ++ encs zs
theorem encs_snoc (zs : List Int) (z : Int) : encs (zs ++ [z]) = encs zs ++ enc (held z) := by
  induction zs with
  | nil => simp [encs]
  | cons y zs ih => simp [encs, ih]
theorem encs_length (zs : List Int) : (encs zs).length ≤ 9 * zs.length := by
  induction zs with
  | nil => simp [encs]
  | cons y zs ih =>
    have := enc_length (held y)
    simp only [encs, List.length_append, List.length_cons]
    omega
end Pk
end Go.Proofs.YthfnnieklkaefaaGreat

namespace Go.Proofs.YthfnnieklkaefaaGreat
open Go.RowKit
set_option linter.unusedVariables false
/-- a machine: objects, and the table -/
structure Mc where
  o : Ob
  t : List Ls
/-- an entry: session, number, command -/
structure En where
  s : Int
  q : Int
  c : Cm
/-- what a step leaves, and answers -/
structure MAns where
  m : Mc
  e : Int
  v : List Nat
  n : Int
def Mc.zero : Mc := ⟨⟨[], [], [], []⟩, []⟩
def Mc.step (m : Mc) (e : En) : MAns :=
  if (Tb.look m.t e.s e.q).k = 0 then ⟨⟨(m.o.apply e.c).s, Tb.put m.t ⟨e.s, e.q, (m.o.apply e.c).e, (m.o.apply e.c).v, (m.o.apply e.c).n⟩⟩, (m.o.apply e.c).e, (m.o.apply e.c).v, (m.o.apply e.c).n⟩
  else ⟨m, (Tb.look m.t e.s e.q).e, (Tb.look m.t e.s e.q).v, (Tb.look m.t e.s e.q).n⟩
/-- a machine that keeps its bounds -/
structure Mc.Ok (m : Mc) : Prop where
  o : m.o.Inv
  lk : ∀ z ∈ m.o.lk, 0 ≤ z ∧ z ≤ 999
  t : Tb.Ok m.t
  t8 : m.t.length ≤ 8
  te : ∀ l ∈ m.t, 0 ≤ l.e ∧ l.e ≤ 10 ∧ -1 ≤ l.n ∧ l.n ≤ 1073741824
theorem Mc.Ok.zero : Mc.zero.Ok := ⟨Ob.Inv.nil, fun z h => (by cases h), Tb.Ok.nil, by decide, fun l h => (by cases h)⟩
/-- what Apply answers keeps the bounds -/
structure Ans.Fits (r : Ans) : Prop where
  e : 0 ≤ r.e ∧ r.e ≤ 7
  v : r.v.length ≤ 16
  n : -1 ≤ r.n ∧ r.n ≤ 1000
  lk : ∀ z ∈ r.s.lk, 0 ≤ z ∧ z ≤ 999
theorem Mp.getV_len {ps : List Pr} {k : List Nat} (h : Mp.Inv ps) : (Mp.getV ps k).length ≤ 16 := by
  rcases Mp.getV_mem (ps := ps) (k := k) with e | ⟨p, hp, e⟩
  · rw [e]; simp
  · rw [e]; exact (h.len p hp).2
theorem Mp.getE_le (ps : List Pr) (k : List Nat) : 0 ≤ Mp.getE ps k ∧ Mp.getE ps k ≤ 7 := by
  unfold Mp.getE; split <;> omega
theorem Ob.apply_fits {s : Ob} {c : Cm} (h : s.Inv) (hl : ∀ z ∈ s.lk, 0 ≤ z ∧ z ≤ 999) : (s.apply c).Fits := by
  have hz : ([] : List Nat).length ≤ 16 := by simp
  have hn : (-1 : Int) ≤ 0 ∧ (0 : Int) ≤ 1000 := by omega
  have he0 : (0 : Int) ≤ 0 ∧ (0 : Int) ≤ 7 := by omega
  have hmem : ∀ l ∈ s.q, l.length ≤ 16 := h.qv
  refine Ob.apply_ind (P := fun r => r.Fits) s c (fun _ => ⟨he0, h.reg, hn, hl⟩) (fun _ => ⟨?_, hz, hn, hl⟩) (fun _ => ⟨?_, ?_, hn, hl⟩) (fun _ => ⟨?_, hz, ?_, hl⟩) (fun _ => ⟨?_, ?_, hn, hl⟩) (fun hk => ⟨?_, hz, ?_, ?_⟩) (fun hk => ⟨?_, hz, ?_, ?_⟩) (fun _ => ⟨?_, hz, ?_, hl⟩) (fun _ => ⟨?_, ?_, ?_, hl⟩) (fun _ => ⟨Mp.getE_le _ _, Mp.getV_len h.mp, hn, hl⟩) (fun _ => ⟨Mp.getE_le _ _, Mp.getV_len h.mp, hn, hl⟩) ⟨(by decide : (0 : Int) ≤ 7 ∧ (7 : Int) ≤ 7), hz, hn, hl⟩
  · show 0 ≤ (if c.val.length ≤ 16 then (0 : Int) else 1) ∧ (if c.val.length ≤ 16 then (0 : Int) else 1) ≤ 7
    split <;> omega
  · show 0 ≤ casE s.reg c.old c.val ∧ casE s.reg c.old c.val ≤ 7
    unfold casE; split; omega; split <;> omega
  · show (casV s.reg c.old c.val).length ≤ 16
    unfold casV; split; simp; split; simp; exact h.reg
  · show 0 ≤ pushE s.q c.val ∧ pushE s.q c.val ≤ 7
    unfold pushE; split; omega; split <;> omega
  · show -1 ≤ pushN s.q c.val ∧ pushN s.q c.val ≤ 1000
    have := h.ql
    unfold pushN; split; omega; split; omega; push_cast; omega
  · show 0 ≤ popE s.q ∧ popE s.q ≤ 7
    unfold popE; split <;> omega
  · show (popV s.q).length ≤ 16
    unfold popV
    cases hq : s.q with
    | nil => simp
    | cons l t => exact hmem l (by rw [hq]; simp)
  · show 0 ≤ takeE s.lk c.who ∧ takeE s.lk c.who ≤ 7
    unfold takeE; split; omega; split <;> omega
  · show -1 ≤ takeN s.lk c.who ∧ takeN s.lk c.who ≤ 1000
    have := h.lkl
    unfold takeN; split; omega; split; omega; omega
  · show ∀ z ∈ takeS s.lk c.who, 0 ≤ z ∧ z ≤ 999
    unfold takeS
    split
    · exact hl
    · split
      · exact hl
      · intro z hz
        rcases List.mem_append.1 hz with hz | hz
        · exact hl z hz
        · have : z = c.who := by simpa using hz
          omega
  · show 0 ≤ freeE s.lk c.who ∧ freeE s.lk c.who ≤ 7
    unfold freeE; split <;> omega
  · show -1 ≤ freeN s.lk c.who ∧ freeN s.lk c.who ≤ 1000
    unfold freeN
    split
    · cases hq : s.lk.erase c.who with
      | nil => simp
      | cons a t =>
        have : a ∈ s.lk := List.mem_of_mem_erase (by rw [hq]; simp)
        have := hl a this
        simp; omega
    · omega
  · show ∀ z ∈ s.lk.erase c.who, 0 ≤ z ∧ z ≤ 999
    exact fun z hz => hl z (List.mem_of_mem_erase hz)
  · show 0 ≤ ownerE s.lk ∧ ownerE s.lk ≤ 7
    unfold ownerE; split <;> omega
  · show -1 ≤ ownerN s.lk ∧ ownerN s.lk ≤ 1000
    unfold ownerN
    cases hq : s.lk with
    | nil => simp
    | cons a t =>
      have := hl a (by rw [hq]; simp)
      simp; omega
  · show 0 ≤ Mp.putE s.mp c.key c.val ∧ Mp.putE s.mp c.key c.val ≤ 7
    unfold Mp.putE; split; omega; split; omega; split <;> omega
  · show (Mp.putV s.mp c.key c.val).length ≤ 16
    rcases Mp.putV_mem (ps := s.mp) (k := c.key) (v := c.val) with e | ⟨p, hp, e⟩
    · rw [e]; simp
    · rw [e]; exact (h.mp.len p hp).2
  · show -1 ≤ Mp.putN s.mp c.key c.val ∧ Mp.putN s.mp c.key c.val ≤ 1000
    have := h.mp.few
    unfold Mp.putN
    split
    · omega
    · split
      · omega
      · split
        · omega
        · push_cast; omega
end Go.Proofs.YthfnnieklkaefaaGreat

namespace Go.Proofs.YthfnnieklkaefaaGreat
open Go.RowKit
set_option linter.unusedVariables false
/-- where a machine lies -/
structure MA where
  o : OA
  At : Option Addr
  ct : Nat
def machC (a : MA) (m : Mc) : Array Value := #[.slice a.o.A0 m.o.reg.length a.o.c0, .slice a.o.A1 m.o.q.length a.o.c1, .slice a.o.A2 m.o.lk.length a.o.c2, .slice a.o.A3 m.o.mp.length a.o.c3, .slice a.At m.t.length a.ct]
def entC (a : CA) (e : En) : Array Value := #[.int .i64 e.s, .int .i64 e.q, .int .i64 e.c.kind, .int .i64 e.c.who, .slice a.Ak e.c.key.length a.ck, .slice a.Av e.c.val.length a.cv, .slice a.Ao e.c.old.length a.co]
def machV (a : MA) (m : Mc) : Value := .agg (machC a m)
def entV (a : CA) (e : En) : Value := .agg (entC a e)
/-- a machine that reads -/
structure RdM (w : World) (B : Nat) (a : MA) (m : Mc) : Prop where
  o : RdO w B a.o m.o
  t : RdL w B a.At m.t.length m.t
  lt : m.t.length ≤ a.ct
/-- a machine of the call's own -/
structure OwnM (W w : World) (a : MA) (m : Mc) : Prop where
  o : OwnO W w a.o m.o
  t : OwnL W w a.At m.t.length a.ct m.t
section
variable {W w w' : World} {B : Nat} {a : MA} {m : Mc}
theorem RdM.below (h : RdM w B a m) (hb : Below B w w') : RdM w' B a m := ⟨h.o.below hb, h.t.below hb, h.lt⟩
theorem RdM.fit (h : RdM w B a m) : RdM w w.heap.size a m := ⟨h.o.fit, h.t.fit, h.lt⟩
theorem OwnM.rd (h : OwnM W w a m) : RdM w w.heap.size a m := ⟨h.o.rd, h.t.rd, h.t.cap⟩
theorem OwnM.below (h : OwnM W w a m) (hb : Below w.heap.size w w') : OwnM W w' a m := ⟨h.o.below hb, h.t.below hb⟩
theorem OwnM.of {W w w' : World} (hs : W.heap.size ≤ w.heap.size) (h : OwnM w w' a m) : OwnM W w' a m := ⟨h.o.of hs, h.t.of hs⟩
theorem RdM.zero (w : World) (B : Nat) : RdM w B ⟨⟨none, 0, none, 0, none, 0, none, 0⟩, none, 0⟩ Mc.zero := ⟨RdO.nil _ _, RdL.nil _ _ _, Nat.le_refl _⟩
theorem OwnO.nil (W w : World) : OwnO W w ⟨none, 0, none, 0, none, 0, none, 0⟩ ⟨[], [], [], []⟩ := ⟨own_nil _ _, OwnQ.nil _ _, ownI_nil _ _, OwnP.nil _ _⟩
theorem OwnM.zero (W w : World) : OwnM W w ⟨⟨none, 0, none, 0, none, 0, none, 0⟩, none, 0⟩ Mc.zero := ⟨OwnO.nil _ _, OwnL.nil _ _⟩
theorem OwnM.set_t {b i : Nat} {t : TypeId} {u : Value} {cs : Array Value} (h : OwnM W w a m) (hb : Blk w b t cs) (h1 : 5 ≠ t) (h2 : 24 ≠ t) (h3 : 3 ≠ t) (h4 : 86 ≠ t) (h5 : 54 ≠ t) : OwnM W (w.setCell ⟨b, i, none⟩ u) a m :=
  ⟨h.o.set_t hb h1 h2 h3 h4, h.t.set_t hb h1 h5⟩
end
/-- five stores into a block of five cells: what they leave -/
theorem put5 {w : World} {b : Nat} {t : TypeId} {x0 y0 z0 u0 v0 : Value} (hk : Blk w b t #[x0, y0, z0, u0, v0]) (x y z u v : Value) :
    Blk (((((w.setCell ⟨b, 0, none⟩ x).setCell ⟨b, 1, none⟩ y).setCell ⟨b, 2, none⟩ z).setCell ⟨b, 3, none⟩ u).setCell ⟨b, 4, none⟩ v) b t #[x, y, z, u, v] ∧
    (∀ W, W.heap.size ≤ b → Below W.heap.size W w → Below W.heap.size W (((((w.setCell ⟨b, 0, none⟩ x).setCell ⟨b, 1, none⟩ y).setCell ⟨b, 2, none⟩ z).setCell ⟨b, 3, none⟩ u).setCell ⟨b, 4, none⟩ v)) ∧
    (∀ W a m, OwnM W w a m → 5 ≠ t → 24 ≠ t → 3 ≠ t → 86 ≠ t → 54 ≠ t → OwnM W (((((w.setCell ⟨b, 0, none⟩ x).setCell ⟨b, 1, none⟩ y).setCell ⟨b, 2, none⟩ z).setCell ⟨b, 3, none⟩ u).setCell ⟨b, 4, none⟩ v) a m) ∧
    (∀ base e size v' n xs, w.ownsRow base e size v' n xs → e ≠ t → (((((w.setCell ⟨b, 0, none⟩ x).setCell ⟨b, 1, none⟩ y).setCell ⟨b, 2, none⟩ z).setCell ⟨b, 3, none⟩ u).setCell ⟨b, 4, none⟩ v).ownsRow base e size v' n xs) ∧
    ∀ g t' cs, g ≠ b → Blk w g t' cs → Blk (((((w.setCell ⟨b, 0, none⟩ x).setCell ⟨b, 1, none⟩ y).setCell ⟨b, 2, none⟩ z).setCell ⟨b, 3, none⟩ u).setCell ⟨b, 4, none⟩ v) g t' cs := by
  have k1 := hk.set_ 0 x
  have k2 := k1.set_ 1 y
  have k3 := k2.set_ 2 z
  have k4 := k3.set_ 3 u
  have k5 := k4.set_ 4 v
  refine ⟨k5, fun W h1 h2 => ((((h2.setCell h1 _).setCell h1 _).setCell h1 _).setCell h1 _).setCell h1 _, fun W a m h h1 h2 h3 h4 h5 => ((((h.set_t hk h1 h2 h3 h4 h5).set_t k1 h1 h2 h3 h4 h5).set_t k2 h1 h2 h3 h4 h5).set_t k3 h1 h2 h3 h4 h5).set_t k4 h1 h2 h3 h4 h5,
    fun base e size v' n xs h hne => own_set_t (own_set_t (own_set_t (own_set_t (own_set_t h hk hne) k1 hne) k2 hne) k3 hne) k4 hne,
    fun g t' cs hne h => ((((h.set_other hne).set_other hne).set_other hne).set_other hne).set_other hne⟩
/-- .. and that they may be stored -/
theorem five_frozen {w : World} {b : Nat} {t : TypeId} {x y z u v : Value} (h : Blk w b t #[x, y, z, u, v]) :
    w.frozen? ⟨b, 0, none⟩ = false ∧ w.frozen? ⟨b, 1, none⟩ = false ∧ w.frozen? ⟨b, 2, none⟩ = false ∧ w.frozen? ⟨b, 3, none⟩ = false ∧ w.frozen? ⟨b, 4, none⟩ = false :=
  ⟨h.frozen 0, h.frozen 1, h.frozen 2, h.frozen 3, h.frozen 4⟩
/-- a block of seven cells: what a walk reads of it -/
theorem seven {w : World} {b : Nat} {t : TypeId} {x0 x1 x2 x3 x4 x5 x6 : Value} (h : Blk w b t #[x0, x1, x2, x3, x4, x5, x6]) :
    w.cell? ⟨b, 0, none⟩ = some x0 ∧ w.cell? ⟨b, 1, none⟩ = some x1 ∧ w.cell? ⟨b, 2, none⟩ = some x2 ∧ w.cell? ⟨b, 3, none⟩ = some x3 ∧ w.cell? ⟨b, 4, none⟩ = some x4 ∧ w.cell? ⟨b, 5, none⟩ = some x5 ∧ w.cell? ⟨b, 6, none⟩ = some x6 :=
  ⟨h.cell 0, h.cell 1, h.cell 2, h.cell 3, h.cell 4, h.cell 5, h.cell 6⟩
/-- a machine and a result, both W's own -/
def GotM (W w : World) (r : MAns) (en : Ending) (w' : World) : Prop :=
  ∃ a A c, en = .returned (.tuple #[machV a r.m, resV r.e A r.v.length c r.n]) ∧ OwnM W w' a r.m ∧ OwnB W w' A r.v.length c r.v ∧ Below W.heap.size W w' ∧ Below w.heap.size w w'
theorem GotM.of {W w w' : World} {r : MAns} {en : Ending} (hB : Below W.heap.size W w) (h : GotM w w r en w') : GotM W w r en w' := by
  obtain ⟨a, A, c, h1, h2, h3, h4, h5⟩ := h
  exact ⟨a, A, c, h1, h2.of hB.size, more_ hB.size h3, hB.trans (h4.mono hB.size), h5⟩
/-- a machine, or none -/
def GotMB (W w : World) (r : Option Mc) (en : Ending) (w' : World) : Prop :=
  ∃ a, en = .returned (.tuple #[machV a (r.getD Mc.zero), .bool r.isSome]) ∧ OwnM W w' a (r.getD Mc.zero) ∧ Below W.heap.size W w' ∧ Below w.heap.size w w'
theorem GotMB.of {W w w' : World} {r : Option Mc} {en : Ending} (hB : Below W.heap.size W w) (h : GotMB w w r en w') : GotMB W w r en w' := by
  obtain ⟨a, h1, h2, h3, h4⟩ := h
  exact ⟨a, h1, h2.of hB.size, hB.trans (h3.mono hB.size), h4⟩
theorem Mc.Ok.lim {m : Mc} (h : m.Ok) : LimLs m.t := h.t.lim
theorem Mc.Ok.step {m : Mc} {e : En} (h : m.Ok) (hc : e.c.Fits) : (m.step e).m.Ok := by
  unfold Mc.step
  by_cases hk : (Tb.look m.t e.s e.q).k = 0
  · rw [if_pos hk]
    have hf := Ob.apply_fits (c := e.c) h.o h.lk
    have hn : Tb.named e.s e.q := by
      unfold Tb.look at hk
      split at hk
      · assumption
      · simp at hk
    have hl : m.t.length < 8 ∨ (Tb.here m.t e.s).isSome = true := by
      unfold Tb.look at hk
      rw [if_pos hn] at hk
      cases hh : Tb.here m.t e.s with
      | some l => right; rfl
      | none =>
        left
        rw [hh] at hk
        simp only [] at hk
        split at hk
        · simp at hk
        · omega
    refine ⟨h.o.apply hc, hf.lk, Tb.Ok.put (l := ⟨e.s, e.q, _, _, _⟩) h.t (by have := h.t8; omega) hn hf.v (Ob.apply_vb h.o), ?_, ?_⟩
    · show (Tb.put m.t ⟨e.s, e.q, _, _, _⟩).length ≤ 8
      rw [Tb.length_put h.t.rises]
      have := h.t8
      split
      · exact this
      · rename_i h2
        rcases hl with h3 | h3
        · omega
        · exact absurd h3 h2
    · intro l hl
      rcases Tb.mem_put hl with rfl | hl
      · have := hf.e; have := hf.n
        simp only []
        omega
      · exact h.te l hl
  · rw [if_neg hk]; exact h
theorem RdC.zero (w : World) (B : Nat) : RdC w B ⟨none, 0, none, 0, none, 0⟩ ⟨0, 0, [], [], []⟩ := ⟨Rd.none_ _ _ _, Rd.none_ _ _ _, Rd.none_ _ _ _⟩
end Go.Proofs.YthfnnieklkaefaaGreat

namespace Go.Proofs.YthfnnieklkaefaaGreat
set_option linter.unusedVariables false
/-- each ahead of the next -/
def chainB {α : Type} (lt : α → α → Bool) : List α → Bool
  | [] => true
  | [_] => true
  | a :: b :: r => lt a b && chainB lt (b :: r)
theorem chainB_pairwise {α : Type} {lt : α → α → Bool} (ht : ∀ {a b c}, lt a b = true → lt b c = true → lt a c = true) (l : List α) : chainB lt l = true ↔ l.Pairwise (fun a b => lt a b = true) := by
  induction l with
  | nil => simp [chainB]
  | cons a l ih =>
    cases l with
    | nil => simp [chainB]
    | cons b r =>
      simp only [chainB, Bool.and_eq_true]
      rw [ih, List.pairwise_cons (a := a)]
      constructor
      · rintro ⟨h1, h2⟩
        refine ⟨fun c hc => ?_, h2⟩
        rcases List.mem_cons.1 hc with rfl | hc
        · exact h1
        · exact ht h1 ((List.pairwise_cons.1 h2).1 c hc)
      · rintro ⟨h1, h2⟩
        exact ⟨h1 b (by simp), h2⟩
def encQ (qs : List (List Nat)) : List Nat := qs.flatMap Pk.encB
def encP (ps : List Pr) : List Nat := ps.flatMap fun p => Pk.encB p.1 ++ Pk.encB p.2
def encL1 (l : Ls) : List Nat := Pk.enc (Pk.held l.s) ++ (Pk.enc (Pk.held l.q) ++ (Pk.enc (Pk.held l.e) ++ (Pk.enc (Pk.held (l.n + 1)) ++ Pk.encB l.v)))
def encT (ls : List Ls) : List Nat := ls.flatMap encL1
/-- how many -/
def encN (n : Nat) : List Nat := Pk.enc (Pk.held (n : Int))
def Mc.enc (m : Mc) : List Nat := Pk.encB m.o.reg ++ (encN m.o.q.length ++ (encQ m.o.q ++ (encN m.o.lk.length ++ (Pk.encs m.o.lk ++ (encN m.o.mp.length ++ (encP m.o.mp ++ (encN m.t.length ++ encT m.t)))))))
theorem encQ_snoc (qs : List (List Nat)) (x : List Nat) : encQ (qs ++ [x]) = encQ qs ++ Pk.encB x := by simp [encQ]
theorem encP_snoc (ps : List Pr) (p : Pr) : encP (ps ++ [p]) = encP ps ++ Pk.encB p.1 ++ Pk.encB p.2 := by simp [encP]
theorem encB_length (x : List Nat) : (Pk.encB x).length ≤ x.length + 9 := by
  unfold Pk.encB; have := (Pk.enc_length x.length).2; simp; omega
theorem encN_length (n : Nat) : (encN n).length ≤ 9 := (Pk.enc_length _).2
theorem encQ_length {qs : List (List Nat)} (h : ∀ x ∈ qs, x.length ≤ 16) : (encQ qs).length ≤ 25 * qs.length := by
  induction qs with
  | nil => simp [encQ]
  | cons x qs ih =>
    have h1 := ih fun y hy => h y (List.mem_cons_of_mem _ hy)
    have h2 := h x (by simp)
    have h3 := encB_length x
    unfold encQ at h1 ⊢
    rw [List.flatMap_cons, List.length_append, List.length_cons]; omega
theorem encP_length {ps : List Pr} (h : ∀ p ∈ ps, p.1.length ≤ 8 ∧ p.2.length ≤ 16) : (encP ps).length ≤ 42 * ps.length := by
  induction ps with
  | nil => simp [encP]
  | cons p ps ih =>
    have h1 := ih fun y hy => h y (List.mem_cons_of_mem _ hy)
    have h2 := h p (by simp)
    have h3 := encB_length p.1
    have h4 := encB_length p.2
    unfold encP at h1 ⊢
    rw [List.flatMap_cons, List.length_append, List.length_append, List.length_cons]; omega
theorem encT_length {ls : List Ls} (h : ∀ l ∈ ls, l.v.length ≤ 16) : (encT ls).length ≤ 61 * ls.length := by
  induction ls with
  | nil => simp [encT]
  | cons l ls ih =>
    have h1 := ih fun y hy => h y (List.mem_cons_of_mem _ hy)
    have h2 := h l (by simp)
    have h3 := encB_length l.v
    have k1 := (Pk.enc_length (Pk.held l.s)).2
    have k2 := (Pk.enc_length (Pk.held l.q)).2
    have k3 := (Pk.enc_length (Pk.held l.e)).2
    have k4 := (Pk.enc_length (Pk.held (l.n + 1))).2
    unfold encT encL1 at h1 ⊢
    rw [List.flatMap_cons, List.length_append, List.length_append, List.length_append, List.length_append, List.length_append, List.length_cons]; omega
/-- what is read -/
def getQ : Nat → Pk.St → List (List Nat) × Pk.St
  | 0, s => ([], s)
  | k + 1, s => (Pk.bytV s 16 :: (getQ k (Pk.bytS s 16)).1, (getQ k (Pk.bytS s 16)).2)
def getI : Nat → Pk.St → List Int × Pk.St
  | 0, s => ([], s)
  | k + 1, s => ((Pk.numV s 999 : Int) :: (getI k (Pk.numS s 999)).1, (getI k (Pk.numS s 999)).2)
def getP1 (s : Pk.St) : Pr × Pk.St := ((Pk.bytV s 8, Pk.bytV (Pk.bytS s 8) 16), Pk.bytS (Pk.bytS s 8) 16)
def getP : Nat → Pk.St → List Pr × Pk.St
  | 0, s => ([], s)
  | k + 1, s => ((getP1 s).1 :: (getP k (getP1 s).2).1, (getP k (getP1 s).2).2)
def getT1 (s : Pk.St) : Ls × Pk.St :=
  (⟨Pk.numV s 1073741824, Pk.numV (Pk.numS s 1073741824) 1073741824, Pk.numV (Pk.numS (Pk.numS s 1073741824) 1073741824) 10,
    Pk.bytV (Pk.numS (Pk.numS (Pk.numS (Pk.numS s 1073741824) 1073741824) 10) 1073741825) 16, (Pk.numV (Pk.numS (Pk.numS (Pk.numS s 1073741824) 1073741824) 10) 1073741825 : Int) - 1⟩,
   Pk.bytS (Pk.numS (Pk.numS (Pk.numS (Pk.numS s 1073741824) 1073741824) 10) 1073741825) 16)
def getT : Nat → Pk.St → List Ls × Pk.St
  | 0, s => ([], s)
  | k + 1, s => ((getT1 s).1 :: (getT k (getT1 s).2).1, (getT k (getT1 s).2).2)
def stQ (s : Pk.St) : List (List Nat) × Pk.St := getQ (Pk.numV s 8) (Pk.numS s 8)
def stI (s : Pk.St) : List Int × Pk.St := getI (Pk.numV s 5) (Pk.numS s 5)
def stP (s : Pk.St) : List Pr × Pk.St := getP (Pk.numV s 8) (Pk.numS s 8)
def stT (s : Pk.St) : List Ls × Pk.St := getT (Pk.numV s 8) (Pk.numS s 8)
def getO (s : Pk.St) : Ob × Pk.St :=
  (⟨Pk.bytV s 16, (stQ (Pk.bytS s 16)).1, (stI (stQ (Pk.bytS s 16)).2).1, (stP (stI (stQ (Pk.bytS s 16)).2).2).1⟩, (stP (stI (stQ (Pk.bytS s 16)).2).2).2)
def Mc.get (s : Pk.St) : Mc × Pk.St := (⟨(getO s).1, (stT (getO s).2).1⟩, (stT (getO s).2).2)
def okP (ps : List Pr) : Bool := chainB (fun p q => Mp.ltB p.1 q.1) ps
def okT (ls : List Ls) : Bool := ls.all (fun l => decide (Tb.named l.s l.q)) && chainB (fun a b => decide (a.s < b.s)) ls
def Mc.wf (m : Mc) : Bool := decide m.o.lk.Nodup && okP m.o.mp && okT m.t
/-- the machine of bytes, or none -/
def Mc.dec (l : List Nat) : Option Mc := if (Mc.get (some l)).1.wf = true ∧ (Mc.get (some l)).2 = some [] then some (Mc.get (some l)).1 else none
def En.zero : En := ⟨0, 0, ⟨0, 0, [], [], []⟩⟩
-- back
theorem num_of_enc {n : Nat} {m : Int} {rest : List Nat} (h : n ≤ Pk.top) (hm : n ≤ Pk.held m) : Pk.numV (some (Pk.enc n ++ rest)) m = n ∧ Pk.numS (some (Pk.enc n ++ rest)) m = some rest := Pk.numV_is (Pk.numN_enc h rest m hm)
theorem num_of_encI {z : Int} {m : Int} {rest : List Nat} (h0 : 0 ≤ z) (hm : z ≤ m) (ht : m ≤ 4611686018427387904) : (Pk.numV (some (Pk.enc (Pk.held z) ++ rest)) m : Int) = z ∧ Pk.numS (some (Pk.enc (Pk.held z) ++ rest)) m = some rest := by
  have e : (Pk.held z : Int) = z := by unfold Pk.held Pk.top; omega
  have h1 := num_of_enc (n := Pk.held z) (m := m) (rest := rest) (Pk.held_le z) (by unfold Pk.held Pk.top; omega)
  exact ⟨by rw [h1.1, e], h1.2⟩
theorem num_of_encN {n : Nat} {m : Int} {rest : List Nat} (hm : (n : Int) ≤ m) (ht : m ≤ 4611686018427387904) : Pk.numV (some (encN n ++ rest)) m = n ∧ Pk.numS (some (encN n ++ rest)) m = some rest := by
  have := num_of_encI (z := (n : Int)) (m := m) (rest := rest) (by omega) hm ht
  exact ⟨by have := this.1; unfold encN; omega, this.2⟩
theorem byt_of_enc {x : List Nat} {m : Int} {rest : List Nat} (h : (x.length : Int) ≤ m) (ht : m ≤ 1000) : Pk.bytV (some (Pk.encB x ++ rest)) m = x ∧ Pk.bytS (some (Pk.encB x ++ rest)) m = some rest :=
  Pk.bytV_is (Pk.bytN_enc x rest m (by unfold Pk.top; omega) (by unfold Pk.held Pk.top; omega))
theorem getQ_enc (qs : List (List Nat)) (rest : List Nat) (h : ∀ x ∈ qs, x.length ≤ 16) : getQ qs.length (some (encQ qs ++ rest)) = (qs, some rest) := by
  induction qs with
  | nil => rfl
  | cons x qs ih =>
    have hb := byt_of_enc (x := x) (m := 16) (rest := encQ qs ++ rest) (by have := h x (by simp); omega) (by omega)
    have ih := ih fun y hy => h y (List.mem_cons_of_mem _ hy)
    rw [show encQ (x :: qs) ++ rest = Pk.encB x ++ (encQ qs ++ rest) by simp [encQ]]
    simp only [List.length_cons, getQ]
    rw [hb.1, hb.2, ih]
theorem getI_enc (zs : List Int) (rest : List Nat) (h : ∀ z ∈ zs, 0 ≤ z ∧ z ≤ 999) : getI zs.length (some (Pk.encs zs ++ rest)) = (zs, some rest) := by
  induction zs with
  | nil => rfl
  | cons z zs ih =>
    have hz := h z (by simp)
    have hb := num_of_encI (z := z) (m := 999) (rest := Pk.encs zs ++ rest) hz.1 hz.2 (by omega)
    have ih := ih fun y hy => h y (List.mem_cons_of_mem _ hy)
    rw [show Pk.encs (z :: zs) ++ rest = Pk.enc (Pk.held z) ++ (Pk.encs zs ++ rest) by simp [Pk.encs]]
    simp only [List.length_cons, getI]
    rw [hb.1, hb.2, ih]
theorem getP_enc (ps : List Pr) (rest : List Nat) (h : ∀ p ∈ ps, p.1.length ≤ 8 ∧ p.2.length ≤ 16) : getP ps.length (some (encP ps ++ rest)) = (ps, some rest) := by
  induction ps with
  | nil => rfl
  | cons p ps ih =>
    have hp := h p (by simp)
    have h1 := byt_of_enc (x := p.1) (m := 8) (rest := Pk.encB p.2 ++ (encP ps ++ rest)) (by omega) (by omega)
    have h2 := byt_of_enc (x := p.2) (m := 16) (rest := encP ps ++ rest) (by omega) (by omega)
    have ih := ih fun y hy => h y (List.mem_cons_of_mem _ hy)
    rw [show encP (p :: ps) ++ rest = Pk.encB p.1 ++ (Pk.encB p.2 ++ (encP ps ++ rest)) by simp [encP]]
    simp only [List.length_cons, getP, getP1]
    rw [h1.1, h1.2, h2.1, h2.2, ih]
theorem getT_enc (ls : List Ls) (rest : List Nat) (h : ∀ l ∈ ls, Tb.named l.s l.q ∧ l.v.length ≤ 16) (he : ∀ l ∈ ls, 0 ≤ l.e ∧ l.e ≤ 10 ∧ -1 ≤ l.n ∧ l.n ≤ 1073741824) : getT ls.length (some (encT ls ++ rest)) = (ls, some rest) := by
  induction ls with
  | nil => rfl
  | cons l ls ih =>
    obtain ⟨⟨hs1, hq1, hs2, hq2⟩, hv⟩ := h l (by simp)
    obtain ⟨he1, he2, hn1, hn2⟩ := he l (by simp)
    have ih := ih (fun y hy => h y (List.mem_cons_of_mem _ hy)) (fun y hy => he y (List.mem_cons_of_mem _ hy))
    have e : encT (l :: ls) ++ rest = Pk.enc (Pk.held l.s) ++ (Pk.enc (Pk.held l.q) ++ (Pk.enc (Pk.held l.e) ++ (Pk.enc (Pk.held (l.n + 1)) ++ (Pk.encB l.v ++ (encT ls ++ rest))))) := by simp [encT, encL1]
    have k1 := num_of_encI (z := l.s) (m := 1073741824) (rest := Pk.enc (Pk.held l.q) ++ (Pk.enc (Pk.held l.e) ++ (Pk.enc (Pk.held (l.n + 1)) ++ (Pk.encB l.v ++ (encT ls ++ rest))))) (by omega) hs2 (by omega)
    have k2 := num_of_encI (z := l.q) (m := 1073741824) (rest := Pk.enc (Pk.held l.e) ++ (Pk.enc (Pk.held (l.n + 1)) ++ (Pk.encB l.v ++ (encT ls ++ rest)))) (by omega) hq2 (by omega)
    have k3 := num_of_encI (z := l.e) (m := 10) (rest := Pk.enc (Pk.held (l.n + 1)) ++ (Pk.encB l.v ++ (encT ls ++ rest))) he1 he2 (by omega)
    have k4 := num_of_encI (z := l.n + 1) (m := 1073741825) (rest := Pk.encB l.v ++ (encT ls ++ rest)) (by omega) (by omega) (by omega)
    have k5 := byt_of_enc (x := l.v) (m := 16) (rest := encT ls ++ rest) (by omega) (by omega)
    rw [e]
    simp only [List.length_cons, getT, getT1]
    rw [k1.1, k1.2, k2.1, k2.2, k3.1, k3.2, k4.1, k4.2, k5.1, k5.2, ih]
    simp
theorem Mc.Ok.wf {m : Mc} (h : m.Ok) : m.wf = true := by
  unfold Mc.wf okP okT
  have hp : chainB (fun p q : Pr => Mp.ltB p.1 q.1) m.o.mp = true := (chainB_pairwise (lt := fun p q : Pr => Mp.ltB p.1 q.1) (fun h1 h2 => Mp.ltB_trans h1 h2) _).2 h.o.mp.rise
  rw [decide_eq_true h.o.lkn, hp]
  have h1 : chainB (fun a b : Ls => decide (a.s < b.s)) m.t = true := by
    rw [chainB_pairwise (by simp; intro a b c; omega)]
    exact h.t.rises.imp fun h => by simpa using h
  rw [h1]
  simp
  exact fun l hl => (h.t.each l hl).1
theorem Mc.get_enc {m : Mc} (h : m.Ok) (rest : List Nat) : Mc.get (some (m.enc ++ rest)) = (m, some rest) := by
  have e : m.enc ++ rest = Pk.encB m.o.reg ++ (encN m.o.q.length ++ (encQ m.o.q ++ (encN m.o.lk.length ++ (Pk.encs m.o.lk ++ (encN m.o.mp.length ++ (encP m.o.mp ++ (encN m.t.length ++ (encT m.t ++ rest)))))))) := by
    unfold Mc.enc; simp only [List.append_assoc]
  have k0 := byt_of_enc (x := m.o.reg) (m := 16) (rest := encN m.o.q.length ++ (encQ m.o.q ++ (encN m.o.lk.length ++ (Pk.encs m.o.lk ++ (encN m.o.mp.length ++ (encP m.o.mp ++ (encN m.t.length ++ (encT m.t ++ rest)))))))) (by have := h.o.reg; omega) (by omega)
  have k1 := num_of_encN (n := m.o.q.length) (m := 8) (rest := encQ m.o.q ++ (encN m.o.lk.length ++ (Pk.encs m.o.lk ++ (encN m.o.mp.length ++ (encP m.o.mp ++ (encN m.t.length ++ (encT m.t ++ rest))))))) (by have := h.o.ql; omega) (by omega)
  have k2 := num_of_encN (n := m.o.lk.length) (m := 5) (rest := Pk.encs m.o.lk ++ (encN m.o.mp.length ++ (encP m.o.mp ++ (encN m.t.length ++ (encT m.t ++ rest))))) (by have := h.o.lkl; omega) (by omega)
  have k3 := num_of_encN (n := m.o.mp.length) (m := 8) (rest := encP m.o.mp ++ (encN m.t.length ++ (encT m.t ++ rest))) (by have := h.o.mp.few; omega) (by omega)
  have k4 := num_of_encN (n := m.t.length) (m := 8) (rest := encT m.t ++ rest) (by have := h.t8; omega) (by omega)
  have g1 := getQ_enc m.o.q (encN m.o.lk.length ++ (Pk.encs m.o.lk ++ (encN m.o.mp.length ++ (encP m.o.mp ++ (encN m.t.length ++ (encT m.t ++ rest)))))) h.o.qv
  have g2 := getI_enc m.o.lk (encN m.o.mp.length ++ (encP m.o.mp ++ (encN m.t.length ++ (encT m.t ++ rest)))) h.lk
  have g3 := getP_enc m.o.mp (encN m.t.length ++ (encT m.t ++ rest)) h.o.mp.len
  have g4 := getT_enc m.t rest (fun l hl => ⟨(h.t.each l hl).1, (h.t.each l hl).2.1⟩) h.te
  rw [e]
  unfold Mc.get getO stQ stI stP stT
  rw [k0.1, k0.2, k1.1, k1.2, g1]
  simp only []
  rw [k2.1, k2.2, g2]
  simp only []
  rw [k3.1, k3.2, g3]
  simp only []
  rw [k4.1, k4.2, g4]
theorem Mc.dec_enc {m : Mc} (h : m.Ok) : Mc.dec m.enc = some m := by
  have e := Mc.get_enc h []
  rw [List.append_nil] at e
  unfold Mc.dec
  rw [e, if_pos ⟨h.wf, rfl⟩]
end Go.Proofs.YthfnnieklkaefaaGreat

namespace Go.Proofs.YthfnnieklkaefaaGreat
set_option linter.unusedVariables false
/-- all that is left are bytes -/
def BytesSt (s : Pk.St) : Prop := ∀ l, s = some l → ∀ x ∈ l, x < 256
theorem numN_cases (s : Pk.St) (m : Int) : (Pk.numV s m = 0 ∧ Pk.numS s m = none) ∨ ∃ l, s = some l ∧ Pk.numV s m = (Pk.first l).1 ∧ Pk.numV s m ≤ Pk.held m ∧ Pk.numS s m = some (l.drop (Pk.first l).2) := by
  cases s with
  | none => left; exact ⟨rfl, rfl⟩
  | some l =>
    by_cases h : (Pk.first l).2 = 0 ∨ Pk.held m < (Pk.first l).1
    · left
      refine Pk.numV_no ?_
      show Pk.rNum l (Pk.held m) = none
      unfold Pk.rNum; rw [if_pos h]
    · right
      have := Pk.numV_is (s := some l) (m := m) (n := (Pk.first l).1) (l := l.drop (Pk.first l).2) (by show Pk.rNum l (Pk.held m) = _; unfold Pk.rNum; rw [if_neg h])
      refine ⟨l, rfl, this.1, ?_, this.2⟩
      rw [this.1]
      omega
theorem numV_le (s : Pk.St) {m : Int} (hm : 0 ≤ m) : (Pk.numV s m : Int) ≤ m := by
  have hh : (Pk.held m : Int) ≤ m := by unfold Pk.held Pk.top; omega
  rcases numN_cases s m with h | ⟨l, _, _, h, _⟩
  · rw [h.1]; exact hm
  · omega
theorem numS_bytes {s : Pk.St} (h : BytesSt s) (m : Int) : BytesSt (Pk.numS s m) := by
  rcases numN_cases s m with h1 | ⟨l, h1, _, _, h2⟩
  · rw [h1.2]; intro l hl; cases hl
  · rw [h2]
    intro l' hl'
    injection hl' with hl'
    subst hl'
    exact fun x hx => h l h1 x (List.mem_of_mem_drop hx)
theorem bytV_facts {s : Pk.St} (h : BytesSt s) {m : Int} (hm : 0 ≤ m) : ((Pk.bytV s m).length : Int) ≤ m ∧ (∀ x ∈ Pk.bytV s m, x < 256) ∧ BytesSt (Pk.bytS s m) := by
  have hn := numV_le s hm
  have hb := numS_bytes h m
  by_cases hl : ((Pk.numS s m).getD []).length < Pk.numV s m
  · obtain ⟨e1, e2⟩ := Pk.byt_no hl
    rw [e1, e2]
    exact ⟨by simpa using hm, by simp, fun l hl => by cases hl⟩
  · obtain ⟨e1, e2⟩ := Pk.byt_of hl
    rw [e1, e2]
    cases hs : Pk.numS s m with
    | none => exact ⟨by simpa using hm, by simp, fun l hl => by cases hl⟩
    | some l =>
      refine ⟨by simp only [Option.getD_some, List.length_take]; omega, fun x hx => hb l hs x (List.mem_of_mem_take (by simpa using hx)), ?_⟩
      intro l' hl'
      simp only [Option.map_some] at hl'
      injection hl' with hl'
      subst hl'
      exact fun x hx => hb l hs x (List.mem_of_mem_drop hx)
theorem getQ_facts (k : Nat) {s : Pk.St} (h : BytesSt s) : (getQ k s).1.length = k ∧ (∀ x ∈ (getQ k s).1, x.length ≤ 16 ∧ ∀ y ∈ x, y < 256) ∧ BytesSt (getQ k s).2 := by
  induction k generalizing s with
  | zero => exact ⟨rfl, fun x hx => (by cases hx), h⟩
  | succ k ih =>
    obtain ⟨b1, b2, b3⟩ := bytV_facts h (m := 16) (by omega)
    obtain ⟨i1, i2, i3⟩ := ih b3
    refine ⟨by simp only [getQ, List.length_cons, i1], fun x hx => ?_, i3⟩
    simp only [getQ] at hx
    rcases List.mem_cons.1 hx with rfl | hx
    · exact ⟨by omega, b2⟩
    · exact i2 x hx
theorem getI_facts (k : Nat) {s : Pk.St} (h : BytesSt s) : (getI k s).1.length = k ∧ (∀ z ∈ (getI k s).1, 0 ≤ z ∧ z ≤ 999) ∧ BytesSt (getI k s).2 := by
  induction k generalizing s with
  | zero => exact ⟨rfl, fun x hx => (by cases hx), h⟩
  | succ k ih =>
    have b1 := numV_le s (m := 999) (by omega)
    obtain ⟨i1, i2, i3⟩ := ih (numS_bytes h 999)
    refine ⟨by simp only [getI, List.length_cons, i1], fun x hx => ?_, i3⟩
    simp only [getI] at hx
    rcases List.mem_cons.1 hx with rfl | hx
    · omega
    · exact i2 x hx
theorem getP_facts (k : Nat) {s : Pk.St} (h : BytesSt s) : (getP k s).1.length = k ∧ (∀ p ∈ (getP k s).1, (p.1.length ≤ 8 ∧ p.2.length ≤ 16) ∧ (∀ y ∈ p.1, y < 256) ∧ ∀ y ∈ p.2, y < 256) ∧ BytesSt (getP k s).2 := by
  induction k generalizing s with
  | zero => exact ⟨rfl, fun x hx => (by cases hx), h⟩
  | succ k ih =>
    obtain ⟨b1, b2, b3⟩ := bytV_facts h (m := 8) (by omega)
    obtain ⟨c1, c2, c3⟩ := bytV_facts b3 (m := 16) (by omega)
    obtain ⟨i1, i2, i3⟩ := ih c3
    refine ⟨by simp only [getP, getP1, List.length_cons, i1], fun x hx => ?_, i3⟩
    simp only [getP] at hx
    rcases List.mem_cons.1 hx with rfl | hx
    · simp only [getP1]
      exact ⟨⟨by omega, by omega⟩, b2, c2⟩
    · exact i2 x hx
theorem getT_facts (k : Nat) {s : Pk.St} (h : BytesSt s) : (getT k s).1.length = k ∧ (∀ l ∈ (getT k s).1, (0 ≤ l.s ∧ l.s ≤ 1073741824 ∧ 0 ≤ l.q ∧ l.q ≤ 1073741824) ∧ (0 ≤ l.e ∧ l.e ≤ 10 ∧ -1 ≤ l.n ∧ l.n ≤ 1073741824) ∧ l.v.length ≤ 16 ∧ ∀ y ∈ l.v, y < 256) ∧ BytesSt (getT k s).2 := by
  induction k generalizing s with
  | zero => exact ⟨rfl, fun x hx => (by cases hx), h⟩
  | succ k ih =>
    have n1 := numV_le s (m := 1073741824) (by omega)
    have s1 := numS_bytes h 1073741824
    have n2 := numV_le (Pk.numS s 1073741824) (m := 1073741824) (by omega)
    have s2 := numS_bytes s1 1073741824
    have n3 := numV_le (Pk.numS (Pk.numS s 1073741824) 1073741824) (m := 10) (by omega)
    have s3 := numS_bytes s2 10
    have n4 := numV_le (Pk.numS (Pk.numS (Pk.numS s 1073741824) 1073741824) 10) (m := 1073741825) (by omega)
    have s4 := numS_bytes s3 1073741825
    obtain ⟨c1, c2, c3⟩ := bytV_facts s4 (m := 16) (by omega)
    obtain ⟨i1, i2, i3⟩ := ih c3
    refine ⟨by simp only [getT, getT1, List.length_cons, i1], fun x hx => ?_, i3⟩
    simp only [getT] at hx
    rcases List.mem_cons.1 hx with rfl | hx
    · simp only [getT1]
      exact ⟨⟨by omega, by omega, by omega, by omega⟩, ⟨by omega, by omega, by omega, by omega⟩, by omega, c2⟩
    · exact i2 x hx
/-- what is read, but for its order -/
structure Mc.Near (m : Mc) : Prop where
  reg : m.o.reg.length ≤ 16 ∧ ∀ x ∈ m.o.reg, x < 256
  ql : m.o.q.length ≤ 8
  q : ∀ x ∈ m.o.q, x.length ≤ 16 ∧ ∀ y ∈ x, y < 256
  ll : m.o.lk.length ≤ 5
  lk : ∀ z ∈ m.o.lk, 0 ≤ z ∧ z ≤ 999
  ml : m.o.mp.length ≤ 8
  mp : ∀ p ∈ m.o.mp, (p.1.length ≤ 8 ∧ p.2.length ≤ 16) ∧ (∀ y ∈ p.1, y < 256) ∧ ∀ y ∈ p.2, y < 256
  tl : m.t.length ≤ 8
  t : ∀ l ∈ m.t, (0 ≤ l.s ∧ l.s ≤ 1073741824 ∧ 0 ≤ l.q ∧ l.q ≤ 1073741824) ∧ (0 ≤ l.e ∧ l.e ≤ 10 ∧ -1 ≤ l.n ∧ l.n ≤ 1073741824) ∧ l.v.length ≤ 16 ∧ ∀ y ∈ l.v, y < 256
theorem Mc.get_near {s : Pk.St} (h : BytesSt s) : (Mc.get s).1.Near := by
  obtain ⟨a1, a2, a3⟩ := bytV_facts h (m := 16) (by omega)
  have n1 := numV_le (Pk.bytS s 16) (m := 8) (by omega)
  obtain ⟨q1, q2, q3⟩ := getQ_facts (Pk.numV (Pk.bytS s 16) 8) (numS_bytes a3 8)
  have n2 := numV_le (stQ (Pk.bytS s 16)).2 (m := 5) (by omega)
  obtain ⟨i1, i2, i3⟩ := getI_facts (Pk.numV (stQ (Pk.bytS s 16)).2 5) (numS_bytes (s := (stQ (Pk.bytS s 16)).2) q3 5)
  have n3 := numV_le (stI (stQ (Pk.bytS s 16)).2).2 (m := 8) (by omega)
  obtain ⟨p1, p2, p3⟩ := getP_facts (Pk.numV (stI (stQ (Pk.bytS s 16)).2).2 8) (numS_bytes (s := (stI (stQ (Pk.bytS s 16)).2).2) i3 8)
  have n4 := numV_le (stP (stI (stQ (Pk.bytS s 16)).2).2).2 (m := 8) (by omega)
  obtain ⟨t1, t2, t3⟩ := getT_facts (Pk.numV (stP (stI (stQ (Pk.bytS s 16)).2).2).2 8) (numS_bytes (s := (stP (stI (stQ (Pk.bytS s 16)).2).2).2) p3 8)
  exact ⟨⟨by show (Pk.bytV s 16).length ≤ 16; omega, a2⟩, by show (stQ (Pk.bytS s 16)).1.length ≤ 8; unfold stQ; omega, q2, by show (stI (stQ (Pk.bytS s 16)).2).1.length ≤ 5; unfold stI at *; omega, i2, by show (stP (stI (stQ (Pk.bytS s 16)).2).2).1.length ≤ 8; unfold stP at *; omega, p2, by show (stT (stP (stI (stQ (Pk.bytS s 16)).2).2).2).1.length ≤ 8; unfold stT at *; omega, t2⟩
end Go.Proofs.YthfnnieklkaefaaGreat

namespace Go.Proofs.YthfnnieklkaefaaGreat
open Go.RowKit
set_option linter.unusedVariables false
theorem Ls.eq_iff (a b : Ls) : a = b ↔ a.s = b.s ∧ a.q = b.q ∧ a.e = b.e ∧ a.v = b.v ∧ a.n = b.n := by
  constructor
  · rintro rfl; exact ⟨rfl, rfl, rfl, rfl, rfl⟩
  · rintro ⟨h1, h2, h3, h4, h5⟩; cases a; cases b; simp at h1 h2 h3 h4 h5; subst h1 h2 h3 h4 h5; rfl
instance : DecidableEq Ls := fun a b => decidable_of_iff _ (Ls.eq_iff a b).symm
theorem Mc.eq_iff (a b : Mc) : a = b ↔ a.o.reg = b.o.reg ∧ a.o.q = b.o.q ∧ a.o.lk = b.o.lk ∧ a.o.mp = b.o.mp ∧ a.t = b.t := by
  constructor
  · rintro rfl; exact ⟨rfl, rfl, rfl, rfl, rfl⟩
  · rintro ⟨h1, h2, h3, h4, h5⟩; obtain ⟨⟨_, _, _, _⟩, _⟩ := a; obtain ⟨⟨_, _, _, _⟩, _⟩ := b; simp at h1 h2 h3 h4 h5; subst h1 h2 h3 h4 h5; rfl
instance : DecidableEq Mc := fun a b => decidable_of_iff _ (Mc.eq_iff a b).symm
theorem En.eq_iff (a b : En) : a = b ↔ a.s = b.s ∧ a.q = b.q ∧ a.c.kind = b.c.kind ∧ a.c.who = b.c.who ∧ a.c.key = b.c.key ∧ a.c.val = b.c.val ∧ a.c.old = b.c.old := by
  constructor
  · rintro rfl; exact ⟨rfl, rfl, rfl, rfl, rfl, rfl, rfl⟩
  · rintro ⟨h1, h2, h3, h4, h5, h6, h7⟩; obtain ⟨_, _, ⟨_, _, _, _, _⟩⟩ := a; obtain ⟨_, _, ⟨_, _, _, _, _⟩⟩ := b; simp at h1 h2 h3 h4 h5 h6 h7; subst h1 h2 h3 h4 h5 h6 h7; rfl
instance : DecidableEq En := fun a b => decidable_of_iff _ (En.eq_iff a b).symm
def StepC10 : Prop := ∀ {W w : World} {a : MA} {ca : CA} {m : Mc} {e : En} {B B' : Nat}, m.Ok → e.c.Fits → RdM w B a m → RdC w B' ca e.c → Below W.heap.size W w →
  Calls Tryz.prog 10 #[machV a m, entV ca e] w (GotM W w (m.step e))
def EncodeC10 : Prop := ∀ {W w : World} {a : MA} {m : Mc} {B : Nat}, m.Ok → RdM w B a m → Below W.heap.size W w →
  Calls Tryz.prog 14 #[machV a m] w (GotIn W w m.enc)
def DecodeC10 : Prop := ∀ {W w : World} {A : Option Addr} {n c B : Nat} {l : List Nat}, l.length ≤ 100000 → (∀ x ∈ l, x < 256) → n ≤ c → c ≤ maxLen → Rd w B A n (bv l) → Below W.heap.size W w →
  Calls Tryz.prog 13 #[.slice A n c] w (GotMB W w (Mc.dec l))
def SameC10 : Prop := ∀ (w : World) {a a' : MA} {m m' : Mc} {B B' : Nat}, m.Ok → m'.Ok → RdM w B a m → RdM w B' a' m' →
  Calls Tryz.prog 11 #[machV a m, machV a' m'] w fun e w' => e = .returned (.bool (decide (m = m'))) ∧ Below w.heap.size w w'
def SameEC10 : Prop := ∀ (w : World) {ca ca' : CA} {e e' : En} {B B' : Nat}, e.c.Fits → e'.c.Fits → RdC w B ca e.c → RdC w B' ca' e'.c →
  Calls Tryz.prog 29 #[entV ca e, entV ca' e'] w fun en w' => en = .returned (.bool (decide (e = e'))) ∧ Below w.heap.size w w'
def AwakeC10 : Prop := ∀ (w : World), Calls Tryz.prog 9 #[] w fun e w' => e = .returned (.bool true) ∧ Below w.heap.size w w'
theorem StepC10.is (h : StepC10) {W w : World} {a : MA} {ca : CA} {m : Mc} {e : En} {B B' : Nat} {r : MAns} (he : m.step e = r) (hM : m.Ok) (hc : e.c.Fits) (hr : RdM w B a m) (hr' : RdC w B' ca e.c) (hB : Below W.heap.size W w) :
    Calls Tryz.prog 10 #[machV a m, entV ca e] w (GotM W w r) := by subst he; exact h hM hc hr hr' hB
theorem SameC10.is (h : SameC10) (w : World) {a a' : MA} {m m' : Mc} {B B' : Nat} {b : Bool} (hb : decide (m = m') = b) (hM : m.Ok) (hM' : m'.Ok) (hr : RdM w B a m) (hr' : RdM w B' a' m') :
    Calls Tryz.prog 11 #[machV a m, machV a' m'] w fun e w' => e = .returned (.bool b) ∧ Below w.heap.size w w' := by subst hb; exact h w hM hM' hr hr'
theorem SameEC10.is (h : SameEC10) (w : World) {ca ca' : CA} {e e' : En} {B B' : Nat} {b : Bool} (hb : decide (e = e') = b) (hc : e.c.Fits) (hc' : e'.c.Fits) (hr : RdC w B ca e.c) (hr' : RdC w B' ca' e'.c) :
    Calls Tryz.prog 29 #[entV ca e, entV ca' e'] w fun en w' => en = .returned (.bool b) ∧ Below w.heap.size w w' := by subst hb; exact h w hc hc' hr hr'
theorem DecodeC10.is (h : DecodeC10) {W w : World} {A : Option Addr} {n c B : Nat} {l : List Nat} {r : Option Mc} (he : Mc.dec l = r) (hl : l.length ≤ 100000) (hb : ∀ x ∈ l, x < 256) (hn : n ≤ c) (hc : c ≤ maxLen) (hr : Rd w B A n (bv l)) (hB : Below W.heap.size W w) :
    Calls Tryz.prog 13 #[.slice A n c] w (GotMB W w r) := by subst he; exact h hl hb hn hc hr hB
theorem Mc.dec_more {m : Mc} (h : m.Ok) (x : Nat) (r : List Nat) : Mc.dec (m.enc ++ x :: r) = none := by
  unfold Mc.dec
  rw [Mc.get_enc h, if_neg]
  rintro ⟨_, h2⟩
  injection h2 with h2
  cases h2
end Go.Proofs.YthfnnieklkaefaaGreat

namespace Go.Proofs.YthfnnieklkaefaaGreat
open Go.RowKit
set_option linter.unusedVariables false
theorem const1 (w : World) (C : Array Value) (n c : Nat) : (convert 24 24 (.slice (some ⟨w.heap.size, 0, none⟩) n c)).run Tryz.prog (w.alloc (.cells C 5)) = .ok (.slice (some ⟨w.heap.size, 0, none⟩) n c) (w.alloc (.cells C 5 (C.size, C.size + 1))) :=
  Lib.run_convert_bytes_const (P := Tryz.prog) w 24 5 C n c Tryz.underlying24 Tryz.underlying5
end Go.Proofs.YthfnnieklkaefaaGreat

namespace Go.Proofs.YthfnnieklkaefaaGreat
open Go.RowKit
set_option linter.unusedVariables false
/-- the row that grows was there when W's call began -/
def Old (W : World) (row : Option Nat) : Prop := ∀ k, row = some k → k < W.heap.size
section
variable {W w w' : World} {row : Option Nat}
theorem Old.some {b : Nat} (h : b < W.heap.size) : Old W (some b) := fun k hk => by injection hk with hk; omega
theorem own_old {e : TypeId} {size n : Nat} {v : Value} {xs : List Value} (h : w.ownsRow W.heap.size e size v n xs) (hg : w.grownBy w' row) (ho : Old W row) : w'.ownsRow W.heap.size e size v n xs := by
  refine h.kept hg ?_
  rcases he : v.ownBlock with _ | k
  · exact .inl rfl
  · right
    intro h2
    have h3 := ho k h2.symm
    have := (h.lt k he).1
    omega
theorem Owns.old {vs : List Value} {qs : List (List Nat)} (h : Owns W w vs qs) (hg : w.grownBy w' row) (ho : Old W row) : Owns W w' vs qs :=
  ⟨h.len, fun i l hl => by obtain ⟨A, c, e, hq⟩ := h.cell i l hl; exact ⟨A, c, e, own_old hq hg ho⟩⟩
theorem OwnQ.old {A : Option Addr} {n c : Nat} {qs : List (List Nat)} (h : OwnQ W w A n c qs) (hg : w.grownBy w' row) (ho : Old W row) : OwnQ W w' A n c qs := by
  obtain ⟨vs, h1, h2⟩ := h; exact ⟨vs, own_old h1 hg ho, h2.old hg ho⟩
theorem OwnP.old {A : Option Addr} {n c : Nat} {ps : List Pr} (h : OwnP W w A n c ps) (hg : w.grownBy w' row) (ho : Old W row) : OwnP W w' A n c ps := by
  obtain ⟨vs, h1, h2⟩ := h; exact ⟨vs, own_old h1 hg ho, h2.old hg ho⟩
theorem OwnsL.old {vs : List Value} {ls : List Ls} (h : OwnsL W w vs ls) (hg : w.grownBy w' row) (ho : Old W row) : OwnsL W w' vs ls := h.imp fun _ _ _ h => own_old h hg ho
theorem OwnL.old {A : Option Addr} {n c : Nat} {ls : List Ls} (h : OwnL W w A n c ls) (hg : w.grownBy w' row) (ho : Old W row) : OwnL W w' A n c ls := by
  obtain ⟨vs, h1, h2⟩ := h; exact ⟨vs, own_old h1 hg ho, OwnsL.old h2 hg ho⟩
theorem OwnO.old {a : OA} {s : Ob} (h : OwnO W w a s) (hg : w.grownBy w' row) (ho : Old W row) : OwnO W w' a s := ⟨own_old h.o0 hg ho, h.o1.old hg ho, own_old h.o2 hg ho, h.o3.old hg ho⟩
theorem OwnM.old {a : MA} {m : Mc} (h : OwnM W w a m) (hg : w.grownBy w' row) (ho : Old W row) : OwnM W w' a m := ⟨h.o.old hg ho, h.t.old hg ho⟩
/-- the block of a row of the call's own -/
theorem own_row_old {W1 : World} {e : TypeId} {size n : Nat} {v : Value} {xs : List Value} (h : w.ownsRow W1.heap.size e size v n xs) (hs : w.heap.size ≤ W.heap.size) : Old W v.ownBlock := fun k hk => by have := (h.lt k hk).2; omega
end
theorem cellB : CellT Tryz.prog 24 5 (.int .u8 0) 1 := ⟨Tryz.underlying24, by kernel_rfl, rfl⟩
theorem bv_one (l : List Nat) : ∀ u ∈ bv l, u.oneCell' = true := by
  intro u hu
  unfold bv at hu
  obtain ⟨x, _, rfl⟩ := List.mem_map.1 hu
  rfl
theorem bv_app (l m : List Nat) : bv (l ++ m) = bv l ++ bv m := by simp [bv]
end Go.Proofs.YthfnnieklkaefaaGreat

namespace Go.Proofs.YthfnnieklkaefaaGreat
open Go.RowKit
set_option linter.unusedVariables false
namespace Aw
def E1 : En := ⟨1, 1, ⟨4, 0, [], [97], []⟩⟩
def M1 : Mc := ⟨⟨[], [[97]], [], []⟩, [⟨1, 1, 0, [], 1⟩]⟩
theorem fits : E1.c.Fits := ⟨⟨by simp [E1], by simp [E1]⟩, ⟨by simp [E1], by simp [E1]⟩, ⟨by simp [E1], by simp [E1]⟩⟩
theorem zfits : En.zero.c.Fits := ⟨⟨by simp [En.zero], by simp [En.zero]⟩, ⟨by simp [En.zero], by simp [En.zero]⟩, ⟨by simp [En.zero], by simp [En.zero]⟩⟩
theorem s1 : Mc.zero.step E1 = ⟨M1, 0, [], 1⟩ := by rfl
theorem s2 : M1.step E1 = ⟨M1, 0, [], 1⟩ := by rfl
theorem ok1 : M1.Ok := by have := Mc.Ok.step (e := E1) Mc.Ok.zero fits; rwa [s1] at this
theorem se : M1.enc = [0, 1, 1, 97, 0, 0, 1, 1, 1, 0, 2, 0] := by rfl
theorem ze : Mc.zero.enc = [0, 0, 0, 0, 0] := by rfl
theorem sn : Mc.dec ([0, 1, 1, 97, 0, 0, 1, 1, 1, 0, 2, 0] ++ [0]) = none := by rw [← se]; exact Mc.dec_more ok1 0 []
theorem ne : decide (M1 = Mc.zero) = false := by decide
theorem ee : decide (E1 = En.zero) = false := by decide
end Aw
set_option maxHeartbeats 4000000 in
set_option maxRecDepth 100000 in
theorem machAwake (hS : StepC10) (hE : EncodeC10) (hD : DecodeC10) (hM : SameC10) (hN : SameEC10) : AwakeC10 := by
  intro w
  have kc := const1
  have b0 : Below w.heap.size w ((w.alloc (.cells #[.int .u8 97] 5 (1, 2))).alloc (.cells #[.int .i64 1, .int .i64 1, .int .i64 4, .int .i64 0, .slice none 0 0, .slice (some ⟨w.heap.size, 0, none⟩) 1 1, .slice none 0 0] 28)) := ((Below.refl _ _).alloc (Nat.le_refl _) _).alloc (by simp) _
  have HB0 := Lib.hid b0
  have HK0 : Hid (Blk ((w.alloc (.cells #[.int .u8 97] 5 (1, 2))).alloc (.cells #[.int .i64 1, .int .i64 1, .int .i64 4, .int .i64 0, .slice none 0 0, .slice (some ⟨w.heap.size, 0, none⟩) 1 1, .slice none 0 0] 28)) (w.heap.size + 1) 28 #[.int .i64 1, .int .i64 1, .int .i64 4, .int .i64 0, .slice none 0 0, .slice (some ⟨w.heap.size, 0, none⟩) 1 1, .slice none 0 0]) := Lib.hid (by
    have := Blk.new (w.alloc (.cells #[.int .u8 97] 5 (1, 2))) 28 #[.int .i64 1, .int .i64 1, .int .i64 4, .int .i64 0, .slice none 0 0, .slice (some ⟨w.heap.size, 0, none⟩) 1 1, .slice none 0 0]
    rwa [World.size_alloc] at this)
  have HC0 : Hid (RdC ((w.alloc (.cells #[.int .u8 97] 5 (1, 2))).alloc (.cells #[.int .i64 1, .int .i64 1, .int .i64 4, .int .i64 0, .slice none 0 0, .slice (some ⟨w.heap.size, 0, none⟩) 1 1, .slice none 0 0] 28)) ((w.alloc (.cells #[.int .u8 97] 5 (1, 2))).alloc (.cells #[.int .i64 1, .int .i64 1, .int .i64 4, .int .i64 0, .slice none 0 0, .slice (some ⟨w.heap.size, 0, none⟩) 1 1, .slice none 0 0] 28)).heap.size ⟨none, 0, some ⟨w.heap.size, 0, none⟩, 1, none, 0⟩ Aw.E1.c) := Lib.hid ⟨Rd.none_ _ _ _, ((Rd.made w #[.int .u8 97] 5 (1, 2) 1 rfl).fit.alloc (Nat.le_refl _) _).fit, Rd.none_ _ _ _⟩
  clear b0
  go_enter Tryz.func9, Tryz.ntmps9
  go_upto_region 2 with fail
  clear kc
  generalize ((w.alloc (.cells #[.int .u8 97] 5 (1, 2))).alloc (.cells #[.int .i64 1, .int .i64 1, .int .i64 4, .int .i64 0, .slice none 0 0, .slice (some ⟨w.heap.size, 0, none⟩) 1 1, .slice none 0 0] 28)) = wa at HB0 HK0 HC0 ⊢
  obtain ⟨x0, x1, x2, x3, x4, x5, x6⟩ := seven HK0.out
  have c1 := hS.is (W := w) (w := wa) (a := ⟨⟨none, 0, none, 0, none, 0, none, 0⟩, none, 0⟩) (ca := ⟨none, 0, some ⟨w.heap.size, 0, none⟩, 1, none, 0⟩) Aw.s1 Mc.Ok.zero Aw.fits (RdM.zero wa 0) HC0.out HB0.out
  have C1 := Lib.hid c1
  clear c1
  go_upto_region 3 with (first
    | (go_at_call 10; refine C1.out.mono ?_; rintro e w1 ⟨a1, A1, c1, he, ho1, hv1, hB1, hb1⟩
       have he2 : e = .returned (.tuple #[.agg #[.slice a1.o.A0 0 a1.o.c0, .slice a1.o.A1 1 a1.o.c1, .slice a1.o.A2 0 a1.o.c2, .slice a1.o.A3 0 a1.o.c3, .slice a1.At 1 a1.ct], .agg #[.int .i64 0, .slice A1 0 c1, .int .i64 1]]) := he
       clear he
       subst he2
       have bb := ((Below.refl w1.heap.size w1).alloc (Nat.le_refl _) (.cells #[.slice a1.o.A0 0 a1.o.c0, .slice a1.o.A1 1 a1.o.c1, .slice a1.o.A2 0 a1.o.c2, .slice a1.o.A3 0 a1.o.c3, .slice a1.At 1 a1.ct] 37)).alloc (by simp) (.cells #[.int .i64 0, .slice A1 0 c1, .int .i64 1] 40)
       have HK0 := Lib.hid ((HK0.out.below hb1).below bb)
       have HC0 := Lib.hid ((HC0.out.below' hb1).below' bb)
       have HB1 := Lib.hid (hB1.trans (bb.mono hB1.size))
       have HO1 := Lib.hid (ho1.below bb)
       have HK1 := Lib.hid ((Blk.new w1 37 #[.slice a1.o.A0 0 a1.o.c0, .slice a1.o.A1 1 a1.o.c1, .slice a1.o.A2 0 a1.o.c2, .slice a1.o.A3 0 a1.o.c3, .slice a1.At 1 a1.ct]).alloc (.cells #[.int .i64 0, .slice A1 0 c1, .int .i64 1] 40))
       have HK2 := Lib.hid (Blk.new (w1.alloc (.cells #[.slice a1.o.A0 0 a1.o.c0, .slice a1.o.A1 1 a1.o.c1, .slice a1.o.A2 0 a1.o.c2, .slice a1.o.A3 0 a1.o.c3, .slice a1.At 1 a1.ct] 37)) 40 #[.int .i64 0, .slice A1 0 c1, .int .i64 1])
       rw [World.size_alloc] at HK2
       clear bb ho1 hv1 hB1 hb1 C1 HB0)
    | fail)
  generalize (w1.alloc (.cells #[.slice a1.o.A0 0 a1.o.c0, .slice a1.o.A1 1 a1.o.c1, .slice a1.o.A2 0 a1.o.c2, .slice a1.o.A3 0 a1.o.c3, .slice a1.At 1 a1.ct] 37)).alloc (.cells #[.int .i64 0, .slice A1 0 c1, .int .i64 1] 40) = wb at HK0 HC0 HB1 HO1 HK1 HK2 ⊢
  clear x0 x1 x2 x3 x4 x5 x6
  obtain ⟨x0, x1, x2, x3, x4, x5, x6⟩ := seven HK0.out
  obtain ⟨y0, y1, y2, y3, y4⟩ := five HK1.out
  have C2 := Lib.hid (hS.is (W := w) (w := wb) (a := a1) (ca := ⟨none, 0, some ⟨w.heap.size, 0, none⟩, 1, none, 0⟩) Aw.s2 Aw.ok1 Aw.fits HO1.out.rd HC0.out HB1.out)
  go_upto_region 4 with (first
    | (go_at_call 10; refine C2.out.mono ?_; rintro e w2 ⟨a2, A2, c2, he, ho2, hv2, hB2, hb2⟩
       have he2 : e = .returned (.tuple #[.agg #[.slice a2.o.A0 0 a2.o.c0, .slice a2.o.A1 1 a2.o.c1, .slice a2.o.A2 0 a2.o.c2, .slice a2.o.A3 0 a2.o.c3, .slice a2.At 1 a2.ct], .agg #[.int .i64 0, .slice A2 0 c2, .int .i64 1]]) := he
       clear he
       subst he2
       have bb := ((Below.refl w2.heap.size w2).alloc (Nat.le_refl _) (.cells #[.slice a2.o.A0 0 a2.o.c0, .slice a2.o.A1 1 a2.o.c1, .slice a2.o.A2 0 a2.o.c2, .slice a2.o.A3 0 a2.o.c3, .slice a2.At 1 a2.ct] 37)).alloc (by simp) (.cells #[.int .i64 0, .slice A2 0 c2, .int .i64 1] 40)
       have HK0 := Lib.hid ((HK0.out.below hb2).below bb)
       have HC0 := Lib.hid ((HC0.out.below' hb2).below' bb)
       have HK1 := Lib.hid ((HK1.out.below hb2).below bb)
       have HK2 := Lib.hid ((HK2.out.below hb2).below bb)
       have HO1 := Lib.hid ((HO1.out.below hb2).below bb)
       have HB2 := Lib.hid (hB2.trans (bb.mono hB2.size))
       have HK4 := Lib.hid ((Blk.new w2 37 #[.slice a2.o.A0 0 a2.o.c0, .slice a2.o.A1 1 a2.o.c1, .slice a2.o.A2 0 a2.o.c2, .slice a2.o.A3 0 a2.o.c3, .slice a2.At 1 a2.ct]).alloc (.cells #[.int .i64 0, .slice A2 0 c2, .int .i64 1] 40))
       have HK5 := Lib.hid (Blk.new (w2.alloc (.cells #[.slice a2.o.A0 0 a2.o.c0, .slice a2.o.A1 1 a2.o.c1, .slice a2.o.A2 0 a2.o.c2, .slice a2.o.A3 0 a2.o.c3, .slice a2.At 1 a2.ct] 37)) 40 #[.int .i64 0, .slice A2 0 c2, .int .i64 1])
       rw [World.size_alloc] at HK5
       clear bb ho2 hv2 hB2 hb2 C2 HB1)
    | fail)
  generalize (w2.alloc (.cells #[.slice a2.o.A0 0 a2.o.c0, .slice a2.o.A1 1 a2.o.c1, .slice a2.o.A2 0 a2.o.c2, .slice a2.o.A3 0 a2.o.c3, .slice a2.At 1 a2.ct] 37)).alloc (.cells #[.int .i64 0, .slice A2 0 c2, .int .i64 1] 40) = wc at HK0 HC0 HB2 HO1 HK1 HK2 HK4 HK5 ⊢
  clear x0 x1 x2 x3 x4 x5 x6 y0 y1 y2 y3 y4
  obtain ⟨y0, y1, y2, y3, y4⟩ := five HK1.out
  have c3 := hE (W := wc) (w := wc) (a := a1) Aw.ok1 HO1.out.rd (Below.refl _ _)
  rw [Aw.se] at c3
  have C3 := Lib.hid c3
  clear c3
  go_upto_region 5 with (first
    | (go_at_call 14; refine C3.out.mono ?_; rintro e w3 ⟨A3, c3, rfl, ho3, hB3, hb3⟩
       simp only [List.length_cons, List.length_nil, Nat.zero_add, Nat.reduceAdd] at ho3 ⊢
       have HO3 := Lib.hid ho3
       have HB3 := Lib.hid hB3
       clear ho3 hB3 hb3 C3)
    | fail)
  have hcap := own_cap HO3.out
  have C4 := Lib.hid (hD.is (W := w3) (w := w3) (c := c3) (r := some Aw.M1) (by rw [← Aw.se]; exact Mc.dec_enc Aw.ok1) (by simp) (by decide) hcap.1 (by have := hcap.2; omega) (Rd.own_ HO3.out) (Below.refl _ _))
  clear hcap y0 y1 y2 y3 y4
  go_upto_region 6 with (first
    | (go_at_call 13; refine C4.out.mono ?_; rintro e w4 ⟨a4, he, ho4, hB4, hb4⟩
       have he2 : e = .returned (.tuple #[.agg #[.slice a4.o.A0 0 a4.o.c0, .slice a4.o.A1 1 a4.o.c1, .slice a4.o.A2 0 a4.o.c2, .slice a4.o.A3 0 a4.o.c3, .slice a4.At 1 a4.ct], .bool true]) := he
       clear he
       subst he2
       have bb := ((Below.refl w4.heap.size w4).alloc (Nat.le_refl _) (.cells #[.slice a4.o.A0 0 a4.o.c0, .slice a4.o.A1 1 a4.o.c1, .slice a4.o.A2 0 a4.o.c2, .slice a4.o.A3 0 a4.o.c3, .slice a4.At 1 a4.ct] 37)).alloc (by simp) (.cells #[.int .u8 0] 5)
       have HO5 := Lib.hid (own_below (own_below HO3.out hb4) bb)
       have HO4 := Lib.hid (OwnM.below (m := Aw.M1) ho4 bb)
       have HB4 := Lib.hid (HB3.out.trans ((hB4.trans (bb.mono hB4.size)).mono HB3.out.size))
       have HK7 := Lib.hid ((Blk.new w4 37 #[.slice a4.o.A0 0 a4.o.c0, .slice a4.o.A1 1 a4.o.c1, .slice a4.o.A2 0 a4.o.c2, .slice a4.o.A3 0 a4.o.c3, .slice a4.At 1 a4.ct]).alloc (.cells #[.int .u8 0] 5))
       clear bb ho4 hB4 hb4 C4)
    | fail)
  have hold : Old w3 (Value.slice A3 12 c3).ownBlock := own_row_old HO3.out (Nat.le_refl _)
  have HOLD := Lib.hid hold
  have hsrc : Rd ((w4.alloc (.cells #[.slice a4.o.A0 0 a4.o.c0, .slice a4.o.A1 1 a4.o.c1, .slice a4.o.A2 0 a4.o.c2, .slice a4.o.A3 0 a4.o.c3, .slice a4.At 1 a4.ct] 37)).alloc (.cells #[.int .u8 0] 5)) ((w4.alloc (.cells #[.slice a4.o.A0 0 a4.o.c0, .slice a4.o.A1 1 a4.o.c1, .slice a4.o.A2 0 a4.o.c2, .slice a4.o.A3 0 a4.o.c3, .slice a4.At 1 a4.ct] 37)).heap.size + 1) (some ⟨(w4.alloc (.cells #[.slice a4.o.A0 0 a4.o.c0, .slice a4.o.A1 1 a4.o.c1, .slice a4.o.A2 0 a4.o.c2, .slice a4.o.A3 0 a4.o.c3, .slice a4.At 1 a4.ct] 37)).heap.size, 0, none⟩) 1 [.int .u8 0] := Rd.made _ #[.int .u8 0] 5 (0, 0) 1 rfl
  rw [World.size_alloc] at hsrc
  have HSRC := Lib.hid hsrc
  clear hold hsrc HB3
  go_upto_region 7 with (first
    | (at_builtin
       refine wpList_append_cells (W := wc) cellB (.tmp 35) (.tmp 36) rfl (by rfl) rfl HO5.out rfl HSRC.out (by intro u hu; simp at hu; subst hu; rfl) (by omega) (by omega) HB4.out ?_
       intro A5 c5 w5 hown5 hB5 hg5
       have hv5 : OwnB wc w5 A5 (12 + 1) c5 ([0, 1, 1, 97, 0, 0, 1, 1, 1, 0, 2, 0] ++ [0]) := hown5
       have hcap := own_cap hv5
       have HV5 := Lib.hid hv5
       have HB5 := Lib.hid hB5
       have HO4b := Lib.hid (HO4.out.old hg5 HOLD.out)
       have HK7b := Lib.hid (HK7.out.apart_own HO5.out (by decide) hg5)
       have C5 := Lib.hid (hD.is (W := w) (w := w5) (c := c5) (r := none) Aw.sn (by simp) (by decide) hcap.1 (by have := hcap.2; omega) (Rd.own_ HV5.out) (HB2.out.trans (hB5.mono HB2.out.size)))
       clear hown5 hB5 hg5 hv5 hcap HSRC HOLD HO5 HO4 HK7 HB4 HO3)
    | (go_at_call 13; refine C5.out.mono ?_; rintro e w6 ⟨a6, he, ho6, hB6, hb6⟩
       have he2 : e = .returned (.tuple #[.agg #[.slice a6.o.A0 0 a6.o.c0, .slice a6.o.A1 0 a6.o.c1, .slice a6.o.A2 0 a6.o.c2, .slice a6.o.A3 0 a6.o.c3, .slice a6.At 0 a6.ct], .bool false]) := he
       clear he
       subst he2
       have bb := (Below.refl w6.heap.size w6).alloc (Nat.le_refl _) (.cells #[.slice a6.o.A0 0 a6.o.c0, .slice a6.o.A1 0 a6.o.c1, .slice a6.o.A2 0 a6.o.c2, .slice a6.o.A3 0 a6.o.c3, .slice a6.At 0 a6.ct] 37)
       have bc := HB5.out.trans ((hb6.trans (bb.mono hb6.size)).mono HB5.out.size)
       have HK0 := Lib.hid (HK0.out.below bc)
       have HC0 := Lib.hid (HC0.out.below' bc)
       have HK1 := Lib.hid (HK1.out.below bc)
       have HK2 := Lib.hid (HK2.out.below bc)
       have HK4 := Lib.hid (HK4.out.below bc)
       have HK5 := Lib.hid (HK5.out.below bc)
       have HO1 := Lib.hid (HO1.out.below bc)
       have HO4 := Lib.hid ((HO4b.out.below hb6).below bb)
       have HK7 := Lib.hid ((HK7b.out.below hb6).below bb)
       have HB6 := Lib.hid (hB6.trans (bb.mono hB6.size))
       clear bb bc ho6 hB6 hb6 C5 HO4b HK7b HV5 HB5)
    | fail)
  generalize w6.alloc (.cells #[.slice a6.o.A0 0 a6.o.c0, .slice a6.o.A1 0 a6.o.c1, .slice a6.o.A2 0 a6.o.c2, .slice a6.o.A3 0 a6.o.c3, .slice a6.At 0 a6.ct] 37) = wd at HK0 HC0 HK1 HK2 HK4 HK5 HO1 HO4 HB6 HK7 ⊢
  obtain ⟨x0, x1, x2, x3, x4, x5, x6⟩ := seven HK0.out
  obtain ⟨y0, y1, y2, y3, y4⟩ := five HK1.out
  obtain ⟨z0, z1, z2, _, _, _⟩ := three HK2.out
  obtain ⟨u0, u1, u2, u3, u4⟩ := five HK4.out
  obtain ⟨v0, v1, v2, _, _, _⟩ := three HK5.out
  obtain ⟨p0, p1, p2, p3, p4⟩ := five HK7.out
  have FRAME : Hid (∀ wx, Below wd.heap.size wd wx → Blk wx (w.heap.size + 1) 28 #[.int .i64 1, .int .i64 1, .int .i64 4, .int .i64 0, .slice none 0 0, .slice (some ⟨w.heap.size, 0, none⟩) 1 1, .slice none 0 0] ∧ Blk wx w1.heap.size 37 #[.slice a1.o.A0 0 a1.o.c0, .slice a1.o.A1 1 a1.o.c1, .slice a1.o.A2 0 a1.o.c2, .slice a1.o.A3 0 a1.o.c3, .slice a1.At 1 a1.ct]) := Lib.hid (fun wx hb => ⟨HK0.out.below hb, HK1.out.below hb⟩)
  have CN1 := Lib.hid (hM.is wd (b := true) (decide_eq_true rfl) Aw.ok1 Aw.ok1 HO4.out.rd HO1.out.rd)
  go_wp2_with (first
    | (go_at_call 11; refine CN1.out.mono ?_; rintro e w7 ⟨rfl, hb7⟩
       obtain ⟨g0, g1⟩ := FRAME.out w7 hb7
       clear x0 x1 x2 x3 x4 x5 x6 y0 y1 y2 y3 y4
       obtain ⟨x0, x1, x2, x3, x4, x5, x6⟩ := seven g0
       obtain ⟨y0, y1, y2, y3, y4⟩ := five g1
       have hc8 := hE (W := w7) (w := w7) (a := ⟨⟨none, 0, none, 0, none, 0, none, 0⟩, none, 0⟩) Mc.Ok.zero (RdM.zero w7 0) (Below.refl _ _)
       rw [Aw.ze] at hc8
       have CN2 := Lib.hid hc8
       have HB7 := Lib.hid hb7
       clear hb7 CN1 hc8 g0 g1)
    | (go_at_call 14; refine CN2.out.mono ?_; rintro e w8 ⟨A8, c8, rfl, ho8, hB8, hb8⟩
       simp only [List.length_cons, List.length_nil, Nat.zero_add, Nat.reduceAdd] at ho8 ⊢
       have hs8 := str_of (c := c8) (Rd.own_ ho8)
       have hl1 : (strB [0, 0, 0, 0, 0] == ⟨#[0, 0, 0, 0, 0]⟩) = true := by rfl
       have hl2 : ((strB [0, 0, 0, 0, 0]).toList == [0, 0, 0, 0, 0]) = true := by rw [ByteArray.toList_eq]; decide
       have HB8 := Lib.hid (HB7.out.trans (hb8.mono HB7.out.size))
       obtain ⟨g0, g1⟩ := FRAME.out w8 HB8.out
       clear x0 x1 x2 x3 x4 x5 x6 y0 y1 y2 y3 y4
       obtain ⟨x0, x1, x2, x3, x4, x5, x6⟩ := seven g0
       obtain ⟨y0, y1, y2, y3, y4⟩ := five g1
       have CN3 := Lib.hid (hN.is w8 (b := true) (decide_eq_true rfl) Aw.fits Aw.fits (HC0.out.below HB8.out) (HC0.out.below HB8.out))
       clear hB8 hb8 g0 g1 CN2)
    | (go_at_call 29; refine CN3.out.mono ?_; rintro e w9 ⟨rfl, hb9⟩
       have HB9 := Lib.hid (HB8.out.trans (hb9.mono HB8.out.size))
       obtain ⟨g0, g1⟩ := FRAME.out w9 HB9.out
       clear x0 x1 x2 x3 x4 x5 x6 y0 y1 y2 y3 y4
       obtain ⟨x0, x1, x2, x3, x4, x5, x6⟩ := seven g0
       obtain ⟨y0, y1, y2, y3, y4⟩ := five g1
       have CN4 := Lib.hid (hN.is w9 (b := false) Aw.ee Aw.fits Aw.zfits (HC0.out.below HB9.out) (RdC.zero w9 0))
       clear hb9 g0 g1 CN3)
    | (go_at_call 29; refine CN4.out.mono ?_; rintro e w10 ⟨rfl, hb10⟩
       have HB10 := Lib.hid (HB9.out.trans (hb10.mono HB9.out.size))
       obtain ⟨g0, g1⟩ := FRAME.out w10 HB10.out
       clear x0 x1 x2 x3 x4 x5 x6 y0 y1 y2 y3 y4
       obtain ⟨y0, y1, y2, y3, y4⟩ := five g1
       have CN5 := Lib.hid (hM.is w10 (b := false) Aw.ne Aw.ok1 Mc.Ok.zero (HO1.out.rd.below HB10.out) (RdM.zero w10 0))
       clear hb10 g0 g1 CN4)
    | (go_at_call 11; refine CN5.out.mono ?_; rintro e w11 ⟨rfl, hb11⟩
       have HB11 := Lib.hid (HB6.out.trans ((HB10.out.trans (hb11.mono HB10.out.size)).mono HB6.out.size))
       clear hb11 CN5)
    | fail)
  go_ret
  exact ⟨rfl, HB11.out⟩
end Go.Proofs.YthfnnieklkaefaaGreat

namespace Go.Proofs.YthfnnieklkaefaaGreat
open Go.RowKit
set_option linter.unusedVariables false
theorem keys_at {ps : List Pr} {k : Nat} {p : Pr} (h : ps[k]? = some p) : (Mp.keys ps)[k]? = some p.1 := by unfold Mp.keys; rw [List.getElem?_map, h]; rfl
theorem keys_length (ps : List Pr) : (Mp.keys ps).length = ps.length := by simp [Mp.keys]
theorem belowN_ {B : Nat} {a w : World} (h : Below B a w) (k : Nat) : Below B a (w.drewN k) := h.trans ⟨rfl, rfl, rfl, Nat.le_refl _, fun _ _ => rfl⟩
end Go.Proofs.YthfnnieklkaefaaGreat

namespace Go.Proofs.YthfnnieklkaefaaGreat
open Go.RowKit
set_option linter.unusedVariables false
theorem belowN_d {w : World} (m : Nat) : Below w.heap.size w (w.drewN m) := belowN_ (Below.refl _ _) m
end Go.Proofs.YthfnnieklkaefaaGreat

namespace Go.Proofs.YthfnnieklkaefaaGreat
open Go.RowKit
set_option linter.unusedVariables false
theorem Owns.take {W w : World} {vs : List Value} {qs : List (List Nat)} (h : Owns W w vs qs) (k : Nat) : Owns W w (vs.take k) (qs.take k) :=
  ⟨by simp [h.len], fun i l hl => by
    have hi : i < k := by
      rcases Nat.lt_or_ge i k with h' | h'
      · exact h'
      · rw [List.getElem?_eq_none (by simp; omega)] at hl; cases hl
    rw [List.getElem?_take_of_lt hi] at hl ⊢
    exact h.cell i l hl⟩
theorem Owns.drop {W w : World} {vs : List Value} {qs : List (List Nat)} (h : Owns W w vs qs) (k : Nat) : Owns W w (vs.drop k) (qs.drop k) :=
  ⟨by simp [h.len], fun i l hl => by rw [List.getElem?_drop] at hl ⊢; exact h.cell _ l hl⟩
theorem Owns.append {W w : World} {vs vs' : List Value} {qs qs' : List (List Nat)} (h : Owns W w vs qs) (h' : Owns W w vs' qs') : Owns W w (vs ++ vs') (qs ++ qs') :=
  ⟨by simp [h.len, h'.len], fun i l hl => by
    rcases Nat.lt_or_ge i qs.length with hi | hi
    · rw [List.getElem?_append_left hi] at hl
      rw [List.getElem?_append_left (by rw [h.len]; exact hi)]
      exact h.cell i l hl
    · rw [List.getElem?_append_right hi] at hl
      rw [List.getElem?_append_right (by rw [h.len]; exact hi), h.len]
      exact h'.cell _ l hl⟩
theorem own_drew {w : World} {base n size : Nat} {e : TypeId} {v : Value} {vs : List Value} (h : w.ownsRow base e size v n vs) : w.drew.ownsRow base e size v n vs := h
end Go.Proofs.YthfnnieklkaefaaGreat

namespace Go.Proofs.YthfnnieklkaefaaGreat
open Go.RowKit
set_option linter.unusedVariables false
theorem Owns.set {W w : World} {vs : List Value} {qs : List (List Nat)} {A : Option Addr} {c : Nat} {l : List Nat} (h : Owns W w vs qs) (ho : OwnB W w A l.length c l) (i : Nat) : Owns W w (vs.set i (.slice A l.length c)) (qs.set i l) :=
  ⟨by simp [h.len], fun j l' hl => by
    by_cases hij : i = j
    · subst hij
      have hlt : i < qs.length := by
        rcases Nat.lt_or_ge i qs.length with h' | h'
        · exact h'
        · rw [List.getElem?_eq_none (by simpa using h')] at hl; cases hl
      rw [List.getElem?_set_self hlt] at hl
      injection hl with hl
      subst hl
      exact ⟨A, c, by rw [List.getElem?_set_self (by rw [h.len]; exact hlt)], ho⟩
    · rw [List.getElem?_set_ne hij] at hl ⊢
      exact h.cell j l' hl⟩
theorem flat_insert (ps : List Pr) (i : Nat) (k v : List Nat) : flat (ps.take i ++ (k, v) :: ps.drop i) = (flat ps).take (i * 2) ++ [k, v] ++ (flat ps).drop (i * 2) := by
  rw [flat_append, flat_cons, flat_take, flat_drop]; simp
end Go.Proofs.YthfnnieklkaefaaGreat

namespace Go.Proofs.YthfnnieklkaefaaGreat
theorem and_mask (n : Int) (j : Nat) (hj : j < 62) : bits .and .i64 n ((2 ^ j - 1 : Nat) : Int) = n % ((2 ^ j : Nat) : Int) := by
  have hp : 2 ^ j < 2 ^ 62 := Nat.pow_lt_pow_right (by omega) hj
  have hp0 : 0 < 2 ^ j := Nat.two_pow_pos j
  show IntKind.i64.wrap ((BitVec.ofInt 64 n &&& BitVec.ofInt 64 ((2 ^ j - 1 : Nat) : Int)).toNat : Int) = _
  have h1 : (BitVec.ofInt 64 ((2 ^ j - 1 : Nat) : Int)).toNat = 2 ^ j - 1 := by
    rw [BitVec.toNat_ofInt]
    have : (((2 ^ j - 1 : Nat) : Int) % ((2 ^ 64 : Nat) : Int)) = ((2 ^ j - 1 : Nat) : Int) := Int.emod_eq_of_lt (by omega) (by omega)
    rw [this]; simp
  have e : (BitVec.ofInt 64 n &&& BitVec.ofInt 64 ((2 ^ j - 1 : Nat) : Int)).toNat = (n % ((2 ^ j : Nat) : Int)).toNat := by
    rw [BitVec.toNat_and, h1, Nat.and_two_pow_sub_one_eq_mod, BitVec.toNat_ofInt]
    have hd : ((2 ^ j : Nat) : Int) ∣ ((2 ^ 64 : Nat) : Int) := by
      refine ⟨((2 ^ (64 - j) : Nat) : Int), ?_⟩
      rw [← Int.natCast_mul, ← Nat.pow_add, show j + (64 - j) = 64 by omega]
    have h2 := Int.emod_emod_of_dvd n hd
    have h3 := Int.emod_nonneg n (show ((2 ^ 64 : Nat) : Int) ≠ 0 by omega)
    have h4 := Int.emod_nonneg n (show ((2 ^ j : Nat) : Int) ≠ 0 by omega)
    have h5 : (((n % ((2 ^ 64 : Nat) : Int)).toNat % 2 ^ j : Nat) : Int) = n % ((2 ^ j : Nat) : Int) := by
      rw [Int.natCast_emod, Int.toNat_of_nonneg h3, h2]
    omega
  rw [e, IntKind.wrap_i64]
  have h4 := Int.emod_nonneg n (show ((2 ^ j : Nat) : Int) ≠ 0 by omega)
  have h5 := Int.emod_lt_of_pos n (show 0 < ((2 ^ j : Nat) : Int) by omega)
  omega
theorem and_3 (n : Int) : bits .and .i64 n 3 = n % 4 := by simpa using and_mask n 2 (by omega)
theorem and_7 (n : Int) : bits .and .i64 n 7 = n % 8 := by simpa using and_mask n 3 (by omega)
theorem and_15 (n : Int) : bits .and .i64 n 15 = n % 16 := by simpa using and_mask n 4 (by omega)
theorem and_31 (n : Int) : bits .and .i64 n 31 = n % 32 := by simpa using and_mask n 5 (by omega)
theorem and_255 (n : Int) : bits .and .i64 n 255 = n % 256 := by simpa using and_mask n 8 (by omega)
end Go.Proofs.YthfnnieklkaefaaGreat

