/- PackMath MachMath MachKit RegsRef LockRef MapsRef MapsRef2 MapsRef3 MapsRef4 MapsRef5 -/
import Derived.Test.YthfnnieklkaefaaGreatS01
import Derived.Test.YthfnnieklkaefaaGreatS02
import Derived.Deep.DrawnRows
import Derived.Deep.QuietTactic
import Derived.Deep.RegionHeld3
import Derived.Deep.DeepCutAuto
import Derived.Deep.RegionLaw
import Derived.Deep.RegionWith
import Derived.BigQuiet
import Derived.Deep.CutBlock
namespace Go.Proofs.YthfnnieklkaefaaGreat
namespace Pk
/-- the greatest number -/
def top : Nat := 4611686018427387904
/-- the nearest number that may be -/
def held (n : Int) : Nat := min n.toNat top
theorem held_le (n : Int) : held n ≤ top := Nat.min_le_right _ _
theorem held_of {n : Nat} (h : n ≤ top) : held (n : Int) = n := by unfold held; omega
/-- groups of seven bits, the lowest first; at most f more -/
def encF : Nat → Nat → List Nat
  | 0, n => [n]
  | f + 1, n => if n < 128 then [n] else (n % 128 + 128) :: encF f (n / 128)
def enc (n : Nat) : List Nat := encF 8 n
theorem encF_more : ∀ (f n : Nat), n < 128 ^ (f + 1) → encF f n = encF (f + 1) n := by
  intro f
  induction f with
  | zero => intro n h; have h' : n < 128 := by simpa using h
            simp [encF, h']
  | succ f ih =>
    intro n h
    show (if n < 128 then [n] else (n % 128 + 128) :: encF f (n / 128)) = (if n < 128 then [n] else (n % 128 + 128) :: encF (f + 1) (n / 128))
    rw [ih (n / 128) (by rw [Nat.pow_succ] at h; exact Nat.div_lt_of_lt_mul (by omega))]
theorem enc_small {n : Nat} (h : n < 128) : enc n = [n] := by simp [enc, encF, h]
theorem enc_big {n : Nat} (h : 128 ≤ n) (ht : n ≤ top) : enc n = (n % 128 + 128) :: enc (n / 128) := by
  have e : encF 7 (n / 128) = encF 8 (n / 128) := encF_more 7 _ (by unfold top at ht; omega)
  unfold enc
  rw [← e]
  show (if n < 128 then [n] else (n % 128 + 128) :: encF 7 (n / 128)) = _
  rw [if_neg (by omega)]
theorem encF_length : ∀ (f n : Nat), 1 ≤ (encF f n).length ∧ (encF f n).length ≤ f + 1 := by
  intro f
  induction f with
  | zero => intro n; simp [encF]
  | succ f ih =>
    intro n
    have := ih (n / 128)
    unfold encF
    split
    · simp
    · simp only [List.length_cons]; omega
theorem enc_length (n : Nat) : 1 ≤ (enc n).length ∧ (enc n).length ≤ 9 := encF_length 8 n
theorem enc_lt {n : Nat} (h : n ≤ top) : ∀ x ∈ enc n, x < 256 := by
  have key : ∀ (f n : Nat), n < 128 ^ (f + 1) → ∀ x ∈ encF f n, x < 256 := by
    intro f
    induction f with
    | zero => intro n h x hx; simp [encF] at hx; subst hx; simp at h; omega
    | succ f ih =>
      intro n h x hx
      unfold encF at hx
      split at hx
      · simp at hx; omega
      · rcases List.mem_cons.1 hx with rfl | hx
        · omega
        · exact ih (n / 128) (by rw [Nat.pow_succ] at h; exact Nat.div_lt_of_lt_mul (by omega)) x hx
  exact key 8 n (by unfold top at h; omega)
/-- the number at the head, and how many bytes it takes: 0 where none is there in its one form; i bytes are read, and say acc -/
def dec : Nat → Nat → List Nat → Nat × Nat
  | _, _, [] => (0, 0)
  | i, acc, x :: l =>
    if 9 ≤ i then (0, 0)
    else if 128 ≤ x then dec (i + 1) (acc + x % 128 * 128 ^ i) l
    else if x = 0 ∧ 0 < i then (0, 0)
    else (acc + x * 128 ^ i, i + 1)
def first (l : List Nat) : Nat × Nat := dec 0 0 l
theorem dec_enc : ∀ (f i n acc : Nat) (rest : List Nat), n < 128 ^ (f + 1) → i + f ≤ 8 → (0 < i → 0 < n) → dec i acc (encF f n ++ rest) = (acc + n * 128 ^ i, i + (encF f n).length) := by
  intro f
  induction f with
  | zero =>
    intro i n acc rest h hi h0
    have h' : n < 128 := by simpa using h
    show dec i acc (n :: rest) = _
    simp only [dec]
    rw [if_neg (by omega), if_neg (by omega), if_neg (by omega)]; rfl
  | succ f ih =>
    intro i n acc rest h hi h0
    by_cases hs : n < 128
    · have e : encF (f + 1) n = [n] := by unfold encF; rw [if_pos hs]
      rw [e]
      show dec i acc (n :: rest) = _
      simp only [dec]
      rw [if_neg (by omega), if_neg (by omega), if_neg (by omega)]; rfl
    · have e : encF (f + 1) n = (n % 128 + 128) :: encF f (n / 128) := by
        show (if n < 128 then [n] else (n % 128 + 128) :: encF f (n / 128)) = _
        rw [if_neg hs]
      rw [e]
      show dec i acc ((n % 128 + 128) :: (encF f (n / 128) ++ rest)) = _
      simp only [dec]
      rw [if_neg (by omega), if_pos (by omega), ih (i + 1) (n / 128) _ rest (by rw [Nat.pow_succ] at h; exact Nat.div_lt_of_lt_mul (by omega)) (by omega) (by omega)]
      simp only [List.length_cons, Prod.mk.injEq]
      constructor
      · have e1 : (n % 128 + 128) % 128 = n % 128 := by omega
        have e2 : n % 128 * 128 ^ i + n / 128 * 128 ^ (i + 1) = n * 128 ^ i := by
          have h1 : n / 128 * 128 ^ (i + 1) = n / 128 * 128 * 128 ^ i := by rw [Nat.pow_succ]; rw [Nat.mul_comm (128 ^ i) 128, ← Nat.mul_assoc]
          rw [h1, ← Nat.add_mul]
          congr 1
          omega
        rw [e1]; omega
      · omega
theorem first_enc {n : Nat} (h : n ≤ top) (rest : List Nat) : first (enc n ++ rest) = (n, (enc n).length) := by
  have := dec_enc 8 0 n 0 rest (by unfold top at h; omega) (by omega) (by omega)
  simpa [first, enc] using this
theorem dec_size : ∀ (l : List Nat) (i acc : Nat), (dec i acc l).2 = 0 ∨ (i < (dec i acc l).2 ∧ (dec i acc l).2 ≤ i + l.length ∧ (dec i acc l).2 ≤ 9) := by
  intro l
  induction l with
  | nil => intro i acc; left; rfl
  | cons x l ih =>
    intro i acc
    simp only [dec]
    split
    · left; rfl
    · split
      · have := ih (i + 1) (acc + x % 128 * 128 ^ i)
        simp only [List.length_cons]
        omega
      · split
        · left; rfl
        · right
          simp only [List.length_cons]
          omega
theorem first_size (l : List Nat) : (first l).2 ≤ l.length ∧ (first l).2 ≤ 9 := by
  have := dec_size l 0 0
  unfold first
  omega
/-- one number read out of l, of at most m -/
def rNum (l : List Nat) (m : Nat) : Option (Nat × List Nat) := if (first l).2 = 0 ∨ m < (first l).1 then none else some ((first l).1, l.drop (first l).2)
/-- a reader that read nothing that is none: what is left; one that did: none -/
abbrev St := Option (List Nat)
def numN (s : St) (m : Int) : Option (Nat × List Nat) := s.bind fun l => rNum l (held m)
def numV (s : St) (m : Int) : Nat := ((numN s m).map (·.1)).getD 0
def numS (s : St) (m : Int) : St := (numN s m).map (·.2)
def bytN (s : St) (m : Int) : Option (List Nat × List Nat) := (numN s m).bind fun p => if p.2.length < p.1 then none else some (p.2.take p.1, p.2.drop p.1)
def bytV (s : St) (m : Int) : List Nat := ((bytN s m).map (·.1)).getD []
def bytS (s : St) (m : Int) : St := (bytN s m).map (·.2)
theorem byt_of {s : St} {m : Int} (h : ¬ ((numS s m).getD []).length < numV s m) : bytV s m = ((numS s m).getD []).take (numV s m) ∧ bytS s m = (numS s m).map (List.drop (numV s m)) := by
  unfold bytV bytS bytN
  unfold numS numV at *
  cases hn : numN s m with
  | none => exact ⟨rfl, rfl⟩
  | some p =>
    rw [hn] at h
    have h' : ¬ p.2.length < p.1 := h
    simp [h']
theorem byt_no {s : St} {m : Int} (h : ((numS s m).getD []).length < numV s m) : bytV s m = [] ∧ bytS s m = none := by
  unfold bytV bytS bytN
  unfold numS numV at *
  cases hn : numN s m with
  | none => exact ⟨rfl, rfl⟩
  | some p =>
    rw [hn] at h
    have h' : p.2.length < p.1 := h
    simp [h']
theorem rNum_enc {n : Nat} (h : n ≤ top) (rest : List Nat) (m : Nat) (hm : n ≤ m) : rNum (enc n ++ rest) m = some (n, rest) := by
  unfold rNum
  rw [first_enc h]
  have := enc_length n
  simp only
  rw [if_neg (by omega), List.drop_left']
  rfl
/-- the bytes of some bytes: their length, and they -/
def encB (x : List Nat) : List Nat := enc x.length ++ x
theorem encB_lt {x : List Nat} (h : ∀ y ∈ x, y < 256) (hl : x.length ≤ top) : ∀ y ∈ encB x, y < 256 := by
  intro y hy
  rcases List.mem_append.1 hy with hy | hy
  · exact enc_lt hl y hy
  · exact h y hy
theorem numN_enc {n : Nat} (h : n ≤ top) (rest : List Nat) (m : Int) (hm : n ≤ held m) : numN (some (enc n ++ rest)) m = some (n, rest) := rNum_enc h rest _ hm
theorem bytN_enc (x rest : List Nat) (m : Int) (h : x.length ≤ top) (hm : x.length ≤ held m) : bytN (some (encB x ++ rest)) m = some (x, rest) := by
  unfold bytN encB
  rw [List.append_assoc, numN_enc h _ _ hm]
  simp only [Option.bind_some]
  rw [if_neg (by simp), List.take_left', List.drop_left'] <;> rfl
theorem numV_is {s : St} {m : Int} {n : Nat} {l : List Nat} (h : numN s m = some (n, l)) : numV s m = n ∧ numS s m = some l := by
  unfold numV numS; rw [h]; exact ⟨rfl, rfl⟩
theorem numV_no {s : St} {m : Int} (h : numN s m = none) : numV s m = 0 ∧ numS s m = none := by
  unfold numV numS; rw [h]; exact ⟨rfl, rfl⟩
theorem bytV_is {s : St} {m : Int} {x l : List Nat} (h : bytN s m = some (x, l)) : bytV s m = x ∧ bytS s m = some l := by
  unfold bytV bytS; rw [h]; exact ⟨rfl, rfl⟩
/-- numbers, one behind the other -/
def encs : List Int → List Nat
  | [] => []
  | z :: zs => enc (held z) ++ encs zs
theorem encs_snoc (zs : List Int) (z : Int) : encs (zs ++ [z]) = encs zs ++ enc (held z) := by
  induction zs with
  | nil => simp [encs]
  | cons y zs ih => simp [encs, ih]
theorem encs_length (zs : List Int) : (encs zs).length ≤ 9 * zs.length := by
  induction zs with
  | nil => simp [encs]
  | cons y zs ih =>
    have := enc_length (held y)
    simp only [encs, List.length_append, List.length_cons]
    omega
theorem encs_lt (zs : List Int) : ∀ x ∈ encs zs, x < 256 := by
  induction zs with
  | nil => intro x hx; cases hx
  | cons y zs ih =>
    intro x hx
    rcases List.mem_append.1 hx with hx | hx
    · exact enc_lt (held_le y) x hx
    · exact ih x hx
end Pk
end Go.Proofs.YthfnnieklkaefaaGreat

namespace Go.Proofs.YthfnnieklkaefaaGreat
open Go.RowKit
set_option linter.unusedVariables false
/-- a machine: objects, and the table -/
structure Mc where
  o : Ob
  t : List Ls
/-- an entry: session, number, command -/
structure En where
  s : Int
  q : Int
  c : Cm
/-- what a step leaves, and answers -/
structure MAns where
  m : Mc
  e : Int
  v : List Nat
  n : Int
def Mc.zero : Mc := ⟨⟨[], [], [], []⟩, []⟩
def Mc.step (m : Mc) (e : En) : MAns :=
  if (Tb.look m.t e.s e.q).k = 0 then ⟨⟨(m.o.apply e.c).s, Tb.put m.t ⟨e.s, e.q, (m.o.apply e.c).e, (m.o.apply e.c).v, (m.o.apply e.c).n⟩⟩, (m.o.apply e.c).e, (m.o.apply e.c).v, (m.o.apply e.c).n⟩
  else ⟨m, (Tb.look m.t e.s e.q).e, (Tb.look m.t e.s e.q).v, (Tb.look m.t e.s e.q).n⟩
/-- a machine that keeps its bounds -/
structure Mc.Ok (m : Mc) : Prop where
  o : m.o.Inv
  lk : ∀ z ∈ m.o.lk, 0 ≤ z ∧ z ≤ 999
  t : Tb.Ok m.t
  t8 : m.t.length ≤ 8
  te : ∀ l ∈ m.t, 0 ≤ l.e ∧ l.e ≤ 10 ∧ -1 ≤ l.n ∧ l.n ≤ 1073741824
theorem Mc.Ok.zero : Mc.zero.Ok := ⟨Ob.Inv.nil, fun z h => (by cases h), Tb.Ok.nil, by decide, fun l h => (by cases h)⟩
/-- what Apply answers keeps the bounds -/
structure Ans.Fits (r : Ans) : Prop where
  e : 0 ≤ r.e ∧ r.e ≤ 7
  v : r.v.length ≤ 16
  n : -1 ≤ r.n ∧ r.n ≤ 1000
  lk : ∀ z ∈ r.s.lk, 0 ≤ z ∧ z ≤ 999
theorem Mp.getV_len {ps : List Pr} {k : List Nat} (h : Mp.Inv ps) : (Mp.getV ps k).length ≤ 16 := by
  rcases Mp.getV_mem (ps := ps) (k := k) with e | ⟨p, hp, e⟩
  · rw [e]; simp
  · rw [e]; exact (h.len p hp).2
theorem Mp.getE_le (ps : List Pr) (k : List Nat) : 0 ≤ Mp.getE ps k ∧ Mp.getE ps k ≤ 7 := by
  unfold Mp.getE; split <;> omega
theorem Ob.apply_fits {s : Ob} {c : Cm} (h : s.Inv) (hl : ∀ z ∈ s.lk, 0 ≤ z ∧ z ≤ 999) : (s.apply c).Fits := by
  have hz : ([] : List Nat).length ≤ 16 := by simp
  have hn : (-1 : Int) ≤ 0 ∧ (0 : Int) ≤ 1000 := by omega
  have he0 : (0 : Int) ≤ 0 ∧ (0 : Int) ≤ 7 := by omega
  have hmem : ∀ l ∈ s.q, l.length ≤ 16 := h.qv
  refine Ob.apply_ind (P := fun r => r.Fits) s c (fun _ => ⟨he0, h.reg, hn, hl⟩) (fun _ => ⟨?_, hz, hn, hl⟩) (fun _ => ⟨?_, ?_, hn, hl⟩) (fun _ => ⟨?_, hz, ?_, hl⟩) (fun _ => ⟨?_, ?_, hn, hl⟩) (fun hk => ⟨?_, hz, ?_, ?_⟩) (fun hk => ⟨?_, hz, ?_, ?_⟩) (fun _ => ⟨?_, hz, ?_, hl⟩) (fun _ => ⟨?_, ?_, ?_, hl⟩) (fun _ => ⟨Mp.getE_le _ _, Mp.getV_len h.mp, hn, hl⟩) (fun _ => ⟨Mp.getE_le _ _, Mp.getV_len h.mp, hn, hl⟩) ⟨(by decide : (0 : Int) ≤ 7 ∧ (7 : Int) ≤ 7), hz, hn, hl⟩
  · show 0 ≤ (if c.val.length ≤ 16 then (0 : Int) else 1) ∧ (if c.val.length ≤ 16 then (0 : Int) else 1) ≤ 7
    split <;> omega
  · show 0 ≤ casE s.reg c.old c.val ∧ casE s.reg c.old c.val ≤ 7
    unfold casE; split; omega; split <;> omega
  · show (casV s.reg c.old c.val).length ≤ 16
    unfold casV; split; simp; split; simp; exact h.reg
  · show 0 ≤ pushE s.q c.val ∧ pushE s.q c.val ≤ 7
    unfold pushE; split; omega; split <;> omega
  · show -1 ≤ pushN s.q c.val ∧ pushN s.q c.val ≤ 1000
    have := h.ql
    unfold pushN; split; omega; split; omega; push_cast; omega
  · show 0 ≤ popE s.q ∧ popE s.q ≤ 7
    unfold popE; split <;> omega
  · show (popV s.q).length ≤ 16
    unfold popV
    cases hq : s.q with
    | nil => simp
    | cons l t => exact hmem l (by rw [hq]; simp)
  · show 0 ≤ takeE s.lk c.who ∧ takeE s.lk c.who ≤ 7
    unfold takeE; split; omega; split <;> omega
  · show -1 ≤ takeN s.lk c.who ∧ takeN s.lk c.who ≤ 1000
    have := h.lkl
    unfold takeN; split; omega; split; omega; omega
  · show ∀ z ∈ takeS s.lk c.who, 0 ≤ z ∧ z ≤ 999
    unfold takeS
    split
    · exact hl
    · split
      · exact hl
      · intro z hz
        rcases List.mem_append.1 hz with hz | hz
        · exact hl z hz
        · have : z = c.who := by simpa using hz
          omega
  · show 0 ≤ freeE s.lk c.who ∧ freeE s.lk c.who ≤ 7
    unfold freeE; split <;> omega
  · show -1 ≤ freeN s.lk c.who ∧ freeN s.lk c.who ≤ 1000
    unfold freeN
    split
    · cases hq : s.lk.erase c.who with
      | nil => simp
      | cons a t =>
        have : a ∈ s.lk := List.mem_of_mem_erase (by rw [hq]; simp)
        have := hl a this
        simp; omega
    · omega
  · show ∀ z ∈ s.lk.erase c.who, 0 ≤ z ∧ z ≤ 999
    exact fun z hz => hl z (List.mem_of_mem_erase hz)
  · show 0 ≤ ownerE s.lk ∧ ownerE s.lk ≤ 7
    unfold ownerE; split <;> omega
  · show -1 ≤ ownerN s.lk ∧ ownerN s.lk ≤ 1000
    unfold ownerN
    cases hq : s.lk with
    | nil => simp
    | cons a t =>
      have := hl a (by rw [hq]; simp)
      simp; omega
  · show 0 ≤ Mp.putE s.mp c.key c.val ∧ Mp.putE s.mp c.key c.val ≤ 7
    unfold Mp.putE; split; omega; split; omega; split <;> omega
  · show (Mp.putV s.mp c.key c.val).length ≤ 16
    rcases Mp.putV_mem (ps := s.mp) (k := c.key) (v := c.val) with e | ⟨p, hp, e⟩
    · rw [e]; simp
    · rw [e]; exact (h.mp.len p hp).2
  · show -1 ≤ Mp.putN s.mp c.key c.val ∧ Mp.putN s.mp c.key c.val ≤ 1000
    have := h.mp.few
    unfold Mp.putN
    split
    · omega
    · split
      · omega
      · split
        · omega
        · push_cast; omega
end Go.Proofs.YthfnnieklkaefaaGreat

namespace Go.Proofs.YthfnnieklkaefaaGreat
open Go.RowKit
set_option linter.unusedVariables false
/-- where a machine lies -/
structure MA where
  o : OA
  At : Option Addr
  ct : Nat
def machC (a : MA) (m : Mc) : Array Value := #[.slice a.o.A0 m.o.reg.length a.o.c0, .slice a.o.A1 m.o.q.length a.o.c1, .slice a.o.A2 m.o.lk.length a.o.c2, .slice a.o.A3 m.o.mp.length a.o.c3, .slice a.At m.t.length a.ct]
def entC (a : CA) (e : En) : Array Value := #[.int .i64 e.s, .int .i64 e.q, .int .i64 e.c.kind, .int .i64 e.c.who, .slice a.Ak e.c.key.length a.ck, .slice a.Av e.c.val.length a.cv, .slice a.Ao e.c.old.length a.co]
def machV (a : MA) (m : Mc) : Value := .agg (machC a m)
def entV (a : CA) (e : En) : Value := .agg (entC a e)
/-- a machine that reads -/
structure RdM (w : World) (B : Nat) (a : MA) (m : Mc) : Prop where
  o : RdO w B a.o m.o
  t : RdL w B a.At m.t.length m.t
  lt : m.t.length ≤ a.ct
/-- a machine of the call's own -/
structure OwnM (W w : World) (a : MA) (m : Mc) : Prop where
  o : OwnO W w a.o m.o
  t : OwnL W w a.At m.t.length a.ct m.t
section
variable {W w w' : World} {B : Nat} {a : MA} {m : Mc}
theorem RdM.below (h : RdM w B a m) (hb : Below B w w') : RdM w' B a m := ⟨h.o.below hb, h.t.below hb, h.lt⟩
theorem RdM.fit (h : RdM w B a m) : RdM w w.heap.size a m := ⟨h.o.fit, h.t.fit, h.lt⟩
theorem RdM.below' (h : RdM w w.heap.size a m) (hb : Below w.heap.size w w') : RdM w' w'.heap.size a m := (h.below hb).fit
theorem OwnM.rd (h : OwnM W w a m) : RdM w w.heap.size a m := ⟨h.o.rd, h.t.rd, h.t.cap⟩
theorem OwnM.below (h : OwnM W w a m) (hb : Below w.heap.size w w') : OwnM W w' a m := ⟨h.o.below hb, h.t.below hb⟩
theorem OwnM.of {W w w' : World} (hs : W.heap.size ≤ w.heap.size) (h : OwnM w w' a m) : OwnM W w' a m := ⟨h.o.of hs, h.t.of hs⟩
theorem RdM.zero (w : World) (B : Nat) : RdM w B ⟨⟨none, 0, none, 0, none, 0, none, 0⟩, none, 0⟩ Mc.zero := ⟨RdO.nil _ _, RdL.nil _ _ _, Nat.le_refl _⟩
theorem OwnO.nil (W w : World) : OwnO W w ⟨none, 0, none, 0, none, 0, none, 0⟩ ⟨[], [], [], []⟩ := ⟨own_nil _ _, OwnQ.nil _ _, ownI_nil _ _, OwnP.nil _ _⟩
theorem OwnM.zero (W w : World) : OwnM W w ⟨⟨none, 0, none, 0, none, 0, none, 0⟩, none, 0⟩ Mc.zero := ⟨OwnO.nil _ _, OwnL.nil _ _⟩
theorem OwnM.set_t {b i : Nat} {t : TypeId} {u : Value} {cs : Array Value} (h : OwnM W w a m) (hb : Blk w b t cs) (h1 : 5 ≠ t) (h2 : 24 ≠ t) (h3 : 3 ≠ t) (h4 : 86 ≠ t) (h5 : 54 ≠ t) : OwnM W (w.setCell ⟨b, i, none⟩ u) a m :=
  ⟨h.o.set_t hb h1 h2 h3 h4, h.t.set_t hb h1 h5⟩
end
/-- five stores into a block of five cells: what they leave -/
theorem put5 {w : World} {b : Nat} {t : TypeId} {x0 y0 z0 u0 v0 : Value} (hk : Blk w b t #[x0, y0, z0, u0, v0]) (x y z u v : Value) :
    Blk (((((w.setCell ⟨b, 0, none⟩ x).setCell ⟨b, 1, none⟩ y).setCell ⟨b, 2, none⟩ z).setCell ⟨b, 3, none⟩ u).setCell ⟨b, 4, none⟩ v) b t #[x, y, z, u, v] ∧
    (∀ W, W.heap.size ≤ b → Below W.heap.size W w → Below W.heap.size W (((((w.setCell ⟨b, 0, none⟩ x).setCell ⟨b, 1, none⟩ y).setCell ⟨b, 2, none⟩ z).setCell ⟨b, 3, none⟩ u).setCell ⟨b, 4, none⟩ v)) ∧
    (∀ W a m, OwnM W w a m → 5 ≠ t → 24 ≠ t → 3 ≠ t → 86 ≠ t → 54 ≠ t → OwnM W (((((w.setCell ⟨b, 0, none⟩ x).setCell ⟨b, 1, none⟩ y).setCell ⟨b, 2, none⟩ z).setCell ⟨b, 3, none⟩ u).setCell ⟨b, 4, none⟩ v) a m) ∧
    (∀ base e size v' n xs, w.ownsRow base e size v' n xs → e ≠ t → (((((w.setCell ⟨b, 0, none⟩ x).setCell ⟨b, 1, none⟩ y).setCell ⟨b, 2, none⟩ z).setCell ⟨b, 3, none⟩ u).setCell ⟨b, 4, none⟩ v).ownsRow base e size v' n xs) ∧
    ∀ g t' cs, g ≠ b → Blk w g t' cs → Blk (((((w.setCell ⟨b, 0, none⟩ x).setCell ⟨b, 1, none⟩ y).setCell ⟨b, 2, none⟩ z).setCell ⟨b, 3, none⟩ u).setCell ⟨b, 4, none⟩ v) g t' cs := by
  have k1 := hk.set_ 0 x
  have k2 := k1.set_ 1 y
  have k3 := k2.set_ 2 z
  have k4 := k3.set_ 3 u
  have k5 := k4.set_ 4 v
  refine ⟨k5, fun W h1 h2 => ((((h2.setCell h1 _).setCell h1 _).setCell h1 _).setCell h1 _).setCell h1 _, fun W a m h h1 h2 h3 h4 h5 => ((((h.set_t hk h1 h2 h3 h4 h5).set_t k1 h1 h2 h3 h4 h5).set_t k2 h1 h2 h3 h4 h5).set_t k3 h1 h2 h3 h4 h5).set_t k4 h1 h2 h3 h4 h5,
    fun base e size v' n xs h hne => own_set_t (own_set_t (own_set_t (own_set_t (own_set_t h hk hne) k1 hne) k2 hne) k3 hne) k4 hne,
    fun g t' cs hne h => ((((h.set_other hne).set_other hne).set_other hne).set_other hne).set_other hne⟩
/-- .. and that they may be stored -/
theorem five_frozen {w : World} {b : Nat} {t : TypeId} {x y z u v : Value} (h : Blk w b t #[x, y, z, u, v]) :
    w.frozen? ⟨b, 0, none⟩ = false ∧ w.frozen? ⟨b, 1, none⟩ = false ∧ w.frozen? ⟨b, 2, none⟩ = false ∧ w.frozen? ⟨b, 3, none⟩ = false ∧ w.frozen? ⟨b, 4, none⟩ = false :=
  ⟨h.frozen 0, h.frozen 1, h.frozen 2, h.frozen 3, h.frozen 4⟩
/-- a block of seven cells: what a walk reads of it -/
theorem seven {w : World} {b : Nat} {t : TypeId} {x0 x1 x2 x3 x4 x5 x6 : Value} (h : Blk w b t #[x0, x1, x2, x3, x4, x5, x6]) :
    w.cell? ⟨b, 0, none⟩ = some x0 ∧ w.cell? ⟨b, 1, none⟩ = some x1 ∧ w.cell? ⟨b, 2, none⟩ = some x2 ∧ w.cell? ⟨b, 3, none⟩ = some x3 ∧ w.cell? ⟨b, 4, none⟩ = some x4 ∧ w.cell? ⟨b, 5, none⟩ = some x5 ∧ w.cell? ⟨b, 6, none⟩ = some x6 :=
  ⟨h.cell 0, h.cell 1, h.cell 2, h.cell 3, h.cell 4, h.cell 5, h.cell 6⟩
/-- a machine and a result, both W's own -/
def GotM (W w : World) (r : MAns) (en : Ending) (w' : World) : Prop :=
  ∃ a A c, en = .returned (.tuple #[machV a r.m, resV r.e A r.v.length c r.n]) ∧ OwnM W w' a r.m ∧ OwnB W w' A r.v.length c r.v ∧ Below W.heap.size W w' ∧ Below w.heap.size w w'
theorem GotM.of {W w w' : World} {r : MAns} {en : Ending} (hB : Below W.heap.size W w) (h : GotM w w r en w') : GotM W w r en w' := by
  obtain ⟨a, A, c, h1, h2, h3, h4, h5⟩ := h
  exact ⟨a, A, c, h1, h2.of hB.size, more_ hB.size h3, hB.trans (h4.mono hB.size), h5⟩
/-- a machine, or none -/
def GotMB (W w : World) (r : Option Mc) (en : Ending) (w' : World) : Prop :=
  ∃ a, en = .returned (.tuple #[machV a (r.getD Mc.zero), .bool r.isSome]) ∧ OwnM W w' a (r.getD Mc.zero) ∧ Below W.heap.size W w' ∧ Below w.heap.size w w'
theorem GotMB.of {W w w' : World} {r : Option Mc} {en : Ending} (hB : Below W.heap.size W w) (h : GotMB w w r en w') : GotMB W w r en w' := by
  obtain ⟨a, h1, h2, h3, h4⟩ := h
  exact ⟨a, h1, h2.of hB.size, hB.trans (h3.mono hB.size), h4⟩
theorem Mc.Ok.lim {m : Mc} (h : m.Ok) : LimLs m.t := h.t.lim
theorem Mc.Ok.step {m : Mc} {e : En} (h : m.Ok) (hc : e.c.Fits) : (m.step e).m.Ok := by
  unfold Mc.step
  by_cases hk : (Tb.look m.t e.s e.q).k = 0
  · rw [if_pos hk]
    have hf := Ob.apply_fits (c := e.c) h.o h.lk
    have hn : Tb.named e.s e.q := by
      unfold Tb.look at hk
      split at hk
      · assumption
      · simp at hk
    have hl : m.t.length < 8 ∨ (Tb.here m.t e.s).isSome = true := by
      unfold Tb.look at hk
      rw [if_pos hn] at hk
      cases hh : Tb.here m.t e.s with
      | some l => right; rfl
      | none =>
        left
        rw [hh] at hk
        simp only [] at hk
        split at hk
        · simp at hk
        · omega
    refine ⟨h.o.apply hc, hf.lk, Tb.Ok.put (l := ⟨e.s, e.q, _, _, _⟩) h.t (by have := h.t8; omega) hn hf.v (Ob.apply_vb h.o), ?_, ?_⟩
    · show (Tb.put m.t ⟨e.s, e.q, _, _, _⟩).length ≤ 8
      rw [Tb.length_put h.t.rises]
      have := h.t8
      split
      · exact this
      · rename_i h2
        rcases hl with h3 | h3
        · omega
        · exact absurd h3 h2
    · intro l hl
      rcases Tb.mem_put hl with rfl | hl
      · have := hf.e; have := hf.n
        simp only []
        omega
      · exact h.te l hl
  · rw [if_neg hk]; exact h
/-- what a step answers -/
theorem Mc.step_v {m : Mc} {e : En} (h : m.Ok) : ((m.step e).v.length ≤ 16) ∧ ∀ x ∈ (m.step e).v, x < 256 := by
  unfold Mc.step
  by_cases hk : (Tb.look m.t e.s e.q).k = 0
  · rw [if_pos hk]
    exact ⟨(Ob.apply_fits (c := e.c) h.o h.lk).v, Ob.apply_vb h.o⟩
  · rw [if_neg hk]
    refine ⟨?_, Tb.look_vb h.t _ _⟩
    show (Tb.look m.t e.s e.q).v.length ≤ 16
    unfold Tb.look
    split
    · split
      · rename_i l hl
        split
        · simp
        · split
          · exact (h.t.each l (List.mem_of_find?_eq_some hl)).2.1
          · simp
      · split <;> simp
    · simp
theorem apply_zero (s : Ob) : s.apply ⟨0, 0, [], [], []⟩ = ⟨s, 7, [], 0⟩ := by unfold Ob.apply; simp
theorem Cm.Fits.zero : Cm.Fits ⟨0, 0, [], [], []⟩ := ⟨⟨by simp, by simp⟩, ⟨by simp, by simp⟩, ⟨by simp, by simp⟩⟩
theorem RdC.zero (w : World) (B : Nat) : RdC w B ⟨none, 0, none, 0, none, 0⟩ ⟨0, 0, [], [], []⟩ := ⟨Rd.none_ _ _ _, Rd.none_ _ _ _, Rd.none_ _ _ _⟩
end Go.Proofs.YthfnnieklkaefaaGreat

namespace Go.Proofs.YthfnnieklkaefaaGreat
open Go.RowKit
set_option linter.unusedVariables false

theorem refRead_any {W w : World} {l : List Nat} {A : Option Addr} {n c B : Nat} (hn : Lim 0 n) (hr : Rd w B A n (bv l)) (hB : Below W.heap.size W w) :
    Calls Tryz.prog 123 #[.slice A n c] w (GotR W w 0 l 0) := by
  have H := Lib.hid hr.fit
  clear hr
  go_enter Tryz.func123, Tryz.ntmps123
  go_wp2_with (go_at_call 120; refine (ownref_any (W := W) hn (H.out.alloc (Nat.le_refl _) _) (hB.alloc hB.size _)).mono ?_; rintro e w1 ⟨A1, c1, rfl, hown1, hB1, hb1⟩; have HK := Lib.hid ((Blk.new w 40 zeroR).below hb1); obtain ⟨x0, x1, x2, f0, f1, f2⟩ := three HK.out)
  obtain ⟨k1, k2, k3⟩ := put3 HK.out (.int .i64 0) (.slice A1 l.length c1) (.int .i64 0)
  refine bodyPost_ret (results_cell_row rfl _ _ _ _ _ _ _ rfl k1 Tryz.underlying40 rfl (by kernel_rfl)) rfl ?_
  exact ⟨A1, c1, rfl, k3 _ _ _ _ _ _ hown1 (by decide), k2 W hB.size hB1, k2 w (Nat.le_refl _) (((Below.refl _ _).alloc (Nat.le_refl _) _).trans (hb1.mono (by simp)))⟩
theorem refWrite_any {W w : World} {s v : List Nat} {A A' : Option Addr} {n c n' c' B B' : Nat} (hn : Lim 0 n) (hn' : Lim 0 n') (hr : Rd w B A n (bv s)) (hr' : Rd w B' A' n' (bv v)) (hB : Below W.heap.size W w) :
    Calls Tryz.prog 124 #[.slice A n c, .slice A' n' c'] w (GotSR W w (if v.length ≤ 16 then v else s) (if v.length ≤ 16 then 0 else 1) [] 0) := by
  have HL := Lib.hid hr'.length
  have H := Lib.hid hr.fit
  have H' := Lib.hid hr'.fit
  by_cases hle : n' ≤ 16
  · rw [if_pos (by have := HL.out; omega), if_pos (by have := HL.out; omega)]
    clear hr hr'
    go_enter Tryz.func124, Tryz.ntmps124
    go_wp2_with (go_at_call 120; refine (ownref_any (W := W) hn' (H'.out.alloc (Nat.le_refl _) _) (hB.alloc hB.size _)).mono ?_; rintro e w1 ⟨A1, c1, rfl, hown1, hB1, hb1⟩; have HK := Lib.hid ((Blk.new w 40 zeroR).below hb1); obtain ⟨x0, x1, x2, f0, f1, f2⟩ := three HK.out)
    obtain ⟨k1, k2, k3⟩ := put3 HK.out (.int .i64 0) (.slice none 0 0) (.int .i64 0)
    refine bodyPost_ret (results_tmp_cell_row rfl _ _ _ _ _ _ rfl k1 Tryz.underlying40 rfl (by kernel_rfl)) rfl ?_
    exact ⟨A1, c1, none, 0, rfl, k3 _ _ _ _ _ _ hown1 (by decide), own_nil _ _, k2 W hB.size hB1, k2 w (Nat.le_refl _) (((Below.refl _ _).alloc (Nat.le_refl _) _).trans (hb1.mono (by simp)))⟩
  · rw [if_neg (by have := HL.out; omega), if_neg (by have := HL.out; omega)]
    clear hr hr'
    go_enter Tryz.func124, Tryz.ntmps124
    go_wp2_with (first
      | (go_at_call 120; refine (ownref_any (W := W) hn (H.out.alloc (Nat.le_refl _) _) (hB.alloc hB.size _)).mono ?_; rintro e w1 ⟨A1, c1, rfl, hown1, hB1, hb1⟩)
      | (go_at_call 117; refine (bad_any w1 1).mono ?_; rintro e w2 ⟨rfl, hb2⟩; unfold resV; have HK := Lib.hid (((Blk.new w 40 zeroR).below hb1).below hb2); obtain ⟨x0, x1, x2, f0, f1, f2⟩ := three HK.out))
    obtain ⟨k1, k2, k3⟩ := put3 HK.out (.int .i64 1) (.slice none 0 0) (.int .i64 0)
    have hbw : Below w.heap.size w w1 := ((Below.refl _ _).alloc (Nat.le_refl _) _).trans (hb1.mono (by simp))
    refine bodyPost_ret (results_tmp_cell_row rfl _ _ _ _ _ _ rfl k1 Tryz.underlying40 rfl (by kernel_rfl)) rfl ?_
    exact ⟨A1, c1, none, 0, rfl, k3 _ _ _ _ _ _ (own_below hown1 hb2) (by decide), own_nil _ _, k2 W hB.size (hB1.trans (hb2.mono hB1.size)), k2 w (Nat.le_refl _) (hbw.trans (hb2.mono hbw.size))⟩
set_option maxRecDepth 100000 in
theorem refCas_any {W w : World} {s v old : List Nat} {A A' A2 : Option Addr} {n c n' c' n2 c2 B B' B2 : Nat} (hn : Lim 0 n) (hn' : Lim 0 n') (hs : ∀ x ∈ s, x < 256) (ho : ∀ x ∈ old, x < 256) (hr : Rd w B A n (bv s)) (hr' : Rd w B' A' n' (bv v)) (hr2 : Rd w B2 A2 n2 (bv old)) (hB : Below W.heap.size W w) :
    Calls Tryz.prog 125 #[.slice A n c, .slice A2 n2 c2, .slice A' n' c'] w (GotSR W w (casS s old v) (casE s old v) (casV s old v) 0) := by
  unfold casS casE casV
  have HL := Lib.hid hr'.length
  have H := Lib.hid hr.fit
  have H' := Lib.hid hr'.fit
  have H2 := Lib.hid hr2.fit
  have q1 := Lib.hid (fun (w' : World) (hb : Below w.heap.size w w') => str_of (c := c) (hr.fit.below hb))
  have q2 := Lib.hid (fun (w' : World) (hb : Below w.heap.size w w') => str_of (c := c2) (hr2.fit.below hb))
  have q3 := strL_eq hs ho
  clear hs ho
  by_cases hlt : 16 < n'
  · have hvl : 16 < v.length := by have := HL.out; omega
    rw [if_pos hvl, if_pos hvl, if_pos hvl]
    clear hr hr' hr2 hvl q1 q2 q3
    go_enter Tryz.func125, Tryz.ntmps125
    go_wp2_with (first
      | (go_at_call 120; refine (ownref_any (W := W) hn (H.out.alloc (Nat.le_refl _) _) (hB.alloc hB.size _)).mono ?_; rintro e w1 ⟨A1, c1, rfl, hown1, hB1, hb1⟩)
      | (go_at_call 117; refine (bad_any w1 1).mono ?_; rintro e w2 ⟨rfl, hb2⟩; unfold resV; have HK := Lib.hid (((Blk.new w 40 zeroR).below hb1).below hb2); obtain ⟨x0, x1, x2, f0, f1, f2⟩ := three HK.out))
    obtain ⟨k1, k2, k3⟩ := put3 HK.out (.int .i64 1) (.slice none 0 0) (.int .i64 0)
    have hbw : Below w.heap.size w w1 := ((Below.refl _ _).alloc (Nat.le_refl _) _).trans (hb1.mono (by simp))
    refine bodyPost_ret (results_tmp_cell_row rfl _ _ _ _ _ _ rfl k1 Tryz.underlying40 rfl (by kernel_rfl)) rfl ?_
    exact ⟨A1, c1, none, 0, rfl, k3 _ _ _ _ _ _ (own_below hown1 hb2) (by decide), own_nil _ _, k2 W hB.size (hB1.trans (hb2.mono hB1.size)), k2 w (Nat.le_refl _) (hbw.trans (hb2.mono hbw.size))⟩
  · have hvl : ¬ 16 < v.length := by have := HL.out; omega
    rw [if_neg hvl, if_neg hvl, if_neg hvl]
    clear hvl
    have b0 : Below w.heap.size w (w.alloc (.cells zeroR 40)) := (Below.refl _ _).alloc (Nat.le_refl _) _
    have c1 := q1.out _ b0
    have c2 := q2.out _ b0
    clear hr hr' hr2 q1 q2
    by_cases he : s = old
    · rw [if_pos he, if_pos he, if_pos he]
      rw [decide_eq_true he] at q3
      clear he
      go_enter Tryz.func125, Tryz.ntmps125
      go_wp2_with (go_at_call 120; refine (ownref_any (W := W) hn' (H'.out.alloc (Nat.le_refl _) _) (hB.alloc hB.size _)).mono ?_; rintro e w1 ⟨A1, c1, rfl, hown1, hB1, hb1⟩; have HK := Lib.hid ((Blk.new w 40 zeroR).below hb1); obtain ⟨x0, x1, x2, f0, f1, f2⟩ := three HK.out)
      obtain ⟨k1, k2, k3⟩ := put3 HK.out (.int .i64 0) (.slice none 0 0) (.int .i64 0)
      refine bodyPost_ret (results_tmp_cell_row rfl _ _ _ _ _ _ rfl k1 Tryz.underlying40 rfl (by kernel_rfl)) rfl ?_
      exact ⟨A1, c1, none, 0, rfl, k3 _ _ _ _ _ _ hown1 (by decide), own_nil _ _, k2 W hB.size hB1, k2 w (Nat.le_refl _) (((Below.refl _ _).alloc (Nat.le_refl _) _).trans (hb1.mono (by simp)))⟩
    · rw [if_neg he, if_neg he, if_neg he]
      rw [decide_eq_false he] at q3
      clear he
      go_enter Tryz.func125, Tryz.ntmps125
      go_wp2_with (first
        | (go_at_call 120; refine (ownref_any (W := W) hn (H.out.alloc (Nat.le_refl _) _) (hB.alloc hB.size _)).mono ?_; rintro e w1 ⟨A1, c1, rfl, hown1, hB1, hb1⟩; have hbw : Below w.heap.size w w1 := ((Below.refl _ _).alloc (Nat.le_refl _) _).trans (hb1.mono (by simp)))
        | (go_at_call 120; refine (ownref_any (W := W) hn (H.out.below hbw) hB1).mono ?_; rintro e w2 ⟨A3, c3, rfl, hown3, hB3, hb3⟩; have HK := Lib.hid (((Blk.new w 40 zeroR).below hb1).below hb3); obtain ⟨x0, x1, x2, f0, f1, f2⟩ := three HK.out))
      obtain ⟨k1, k2, k3⟩ := put3 HK.out (.int .i64 2) (.slice A3 s.length c3) (.int .i64 0)
      refine bodyPost_ret (results_tmp_cell_row rfl _ _ _ _ _ _ rfl k1 Tryz.underlying40 rfl (by kernel_rfl)) rfl ?_
      exact ⟨A1, _, A3, c3, rfl, k3 _ _ _ _ _ _ (own_below hown1 hb3) (by decide), k3 _ _ _ _ _ _ hown3 (by decide), k2 W hB.size hB3, k2 w (Nat.le_refl _) (hbw.trans (hb3.mono hbw.size))⟩
end Go.Proofs.YthfnnieklkaefaaGreat

namespace Go.Proofs.YthfnnieklkaefaaGreat
open Go.RowKit
set_option linter.unusedVariables false
theorem place_any (w : World) {A : Option Addr} {n c B : Nat} {zs : List Int} (x : Int) (h : Rd w B A n (iv zs)) (hn : n ≤ maxLen) :
    Calls Tryz.prog 156 #[.slice A n c, .int .i64 x] w fun e w' => e = .returned (.int .i64 (placeI zs x)) ∧ w = w' := by
  have hl : zs.length = n := by have := h.1; rwa [iv_length] at this
  unfold maxLen at hn
  have HN : Hid (n ≤ 9223372036854775807) := Lib.hid (by omega)
  have HL := Lib.hid hl
  have H := Lib.hid h
  clear h hl hn
  go_enter Tryz.func156, Tryz.ntmps156
  go_wp2
  go_loopw [5] (fun i wr => ∃ k : Nat, k ≤ n ∧ i = .int .i64 k ∧ Hid (∀ j, j < k → zs[j]? ≠ some x) ∧ w = wr) (fun i _ => n - (intOf i).toNat)
  case atStart => exact ⟨0, Nat.zero_le _, rfl, Lib.hid (fun j hj => absurd hj (by omega)), rfl⟩
  case round =>
    obtain ⟨k, hk, rfl, HS, rfl⟩ := hrel
    by_cases hlt : k < n
    · obtain ⟨z, hz⟩ : ∃ z, zs[k]? = some z := ⟨_, List.getElem?_eq_getElem (by have := HL.out; omega)⟩
      obtain ⟨b, o, rfl, _⟩ := H.out.int_at hlt
      have hc := H.out.int_cell hlt hz
      have hv : IntKind.i64.wrap ((k : Int) + 1) = (k : Int) + 1 := IntWalk.i64_in _ (by have := HN.out; omega)
      have HZ := Lib.hid hz
      clear hz
      by_cases he : z = x
      · subst he
        have HP := Lib.hid (place_first HZ.out HS.out)
        go_wp2
        go_ret
        exact ⟨ret_int HP.out.symm, rfl⟩
      · have he' : (z == x) = false := by simpa using he
        have HE := Lib.hid he
        clear he
        go_wp2
        go_roundw
        case rel =>
          refine ⟨k + 1, by omega, by go_num, Lib.hid (fun j hj => ?_), trivial⟩
          rcases Nat.lt_or_ge j k with h1 | h1
          · exact HS.out j h1
          · obtain rfl : j = k := by omega
            rw [HZ.out]
            intro h; injection h with h; exact HE.out h
        case measure => simp [intOf]; omega
    · obtain rfl : k = n := by omega
      have HP := Lib.hid (place_none (s := zs) (x := x) (by rw [HL.out]; exact HS.out))
      go_wp2
      go_ret
      exact ⟨ret_int HP.out.symm, rfl⟩
set_option maxHeartbeats 1000000 in
set_option maxRecDepth 100000 in
theorem refTake_raw {w : World} {zs : List Int} {A : Option Addr} {n c B : Nat} (x : Int) (hn : Lim 1 n) (hr : Rd w B A n (iv zs)) :
    Calls Tryz.prog 128 #[.slice A n c, .int .i64 x] w (GotIR w w (takeS zs x) (takeE zs x) (takeN zs x)) := by
  have hB := Below.refl w.heap.size w
  have hn := hn.out
  have HR := Lib.hid hr.fit
  obtain rfl : zs.length = n := by have := hr.1; rwa [iv_length] at this
  have b0 : Below w.heap.size w (w.alloc (.cells zeroR 40)) := (Below.refl _ _).alloc (Nat.le_refl _) _
  clear hr
  unfold takeS takeE takeN
  by_cases hx : x ∈ zs
  · rw [if_pos hx, if_pos hx, if_pos hx]
    obtain ⟨k, hk, hk1, _⟩ := place_lt hx
    have h0 : (0 : Int) ≤ (k : Int) := by omega
    have HP := Lib.hid hk
    clear hk hx
    go_enter Tryz.func128, Tryz.ntmps128
    go_wp2_with (first
      | (at_builtin
         refine wpList_append_cells (W := w) cellI (.tmp 7) (.tmp 8) rfl (by rfl) rfl (ownI_at b0 (by simp)) rfl (HR.out.below (b0.alloc (by simp) _)) (iv_one _) (by omega) (by omega) (b0.alloc (by simp) _) ?_
         intro A1 c1 w1 hown1 hB1 hg1
         simp only [Nat.zero_add] at hown1
         have HK := Lib.hid (((Blk.new w 40 zeroR).alloc (.cells #[] 3)).apart_own (ownI_at (W := w) b0 (by simp)) (by decide) hg1)
         obtain ⟨x0, x1, x2, f0, f1, f2⟩ := three HK.out
         clear hg1)
      | (go_at_call 156; refine (place_any _ x (HR.out.below hB1) (by unfold maxLen; omega)).mono ?_; rintro e w2 ⟨rfl, rfl⟩; rw [HP.out])
      | (go_at_call 117; refine (bad_any _ 6).mono ?_; rintro e w3 ⟨rfl, hb3⟩; unfold resV; clear x0 x1 x2 f0 f1 f2; have HK := Lib.hid (HK.out.below hb3); obtain ⟨x0, x1, x2, f0, f1, f2⟩ := three HK.out)
      | fail)
    obtain ⟨k1, k2, k3⟩ := put3 HK.out (.int .i64 6) (.slice none 0 0) (.int .i64 0)
    refine bodyPost_ret (results_tmp_cell_row rfl _ _ _ _ _ _ rfl k1 Tryz.underlying40 rfl (by kernel_rfl)) rfl ?_
    have h3 := k2 w (Nat.le_refl _) (hB1.trans (hb3.mono hB1.size))
    exact ⟨A1, c1, none, 0, rfl, k3 _ _ _ _ _ _ (ownsRow_below hown1 hb3) (by decide), own_nil _ _, h3, h3⟩
  · rw [if_neg hx, if_neg hx, if_neg hx]
    have HP := Lib.hid (place_no hx)
    clear hx
    by_cases hf : 5 ≤ zs.length
    · rw [if_pos hf, if_pos hf, if_pos hf]
      have hfi : (5 : Int) ≤ (zs.length : Int) := by omega
      go_enter Tryz.func128, Tryz.ntmps128
      go_wp2_with (first
      | (at_builtin
         refine wpList_append_cells (W := w) cellI (.tmp 7) (.tmp 8) rfl (by rfl) rfl (ownI_at b0 (by simp)) rfl (HR.out.below (b0.alloc (by simp) _)) (iv_one _) (by omega) (by omega) (b0.alloc (by simp) _) ?_
         intro A1 c1 w1 hown1 hB1 hg1
         simp only [Nat.zero_add] at hown1
         have HK := Lib.hid (((Blk.new w 40 zeroR).alloc (.cells #[] 3)).apart_own (ownI_at (W := w) b0 (by simp)) (by decide) hg1)
         obtain ⟨x0, x1, x2, f0, f1, f2⟩ := three HK.out
         clear hg1)
      | (go_at_call 156; refine (place_any _ x (HR.out.below hB1) (by unfold maxLen; omega)).mono ?_; rintro e w2 ⟨rfl, rfl⟩; rw [HP.out])
      | (go_at_call 117; refine (bad_any _ 3).mono ?_; rintro e w3 ⟨rfl, hb3⟩; unfold resV; clear x0 x1 x2 f0 f1 f2; have HK := Lib.hid (HK.out.below hb3); obtain ⟨x0, x1, x2, f0, f1, f2⟩ := three HK.out)
      | fail)
      obtain ⟨k1, k2, k3⟩ := put3 HK.out (.int .i64 3) (.slice none 0 0) (.int .i64 0)
      refine bodyPost_ret (results_tmp_cell_row rfl _ _ _ _ _ _ rfl k1 Tryz.underlying40 rfl (by kernel_rfl)) rfl ?_
      have h3 := k2 w (Nat.le_refl _) (hB1.trans (hb3.mono hB1.size))
      exact ⟨A1, c1, none, 0, rfl, k3 _ _ _ _ _ _ (ownsRow_below hown1 hb3) (by decide), own_nil _ _, h3, h3⟩
    · rw [if_neg hf, if_neg hf, if_neg hf]
      have hfi : ¬ (5 : Int) ≤ (zs.length : Int) := by omega
      go_enter Tryz.func128, Tryz.ntmps128
      go_upto_region 6 with (first
      | (at_builtin
         refine wpList_append_cells (W := w) cellI (.tmp 7) (.tmp 8) rfl (by rfl) rfl (ownI_at b0 (by simp)) rfl (HR.out.below (b0.alloc (by simp) _)) (iv_one _) (by omega) (by omega) (b0.alloc (by simp) _) ?_
         intro A1 c1 w1 hown1 hB1 hg1
         simp only [Nat.zero_add] at hown1
         have HK := Lib.hid (((Blk.new w 40 zeroR).alloc (.cells #[] 3)).apart_own (ownI_at (W := w) b0 (by simp)) (by decide) hg1)
         obtain ⟨x0, x1, x2, f0, f1, f2⟩ := three HK.out
         clear hg1)
      | (go_at_call 156; refine (place_any _ x (HR.out.below hB1) (by unfold maxLen; omega)).mono ?_; rintro e w2 ⟨rfl, rfl⟩; rw [HP.out])
      | fail)
      clear x0 x1 x2 f0 f1 f2
      go_wp2_with (first
        | (at_builtin
           refine wpList_append_cells (W := w) cellI (.tmp 21) (.tmp 23) rfl (by rfl) rfl (ownsRow_below hown1 ((Below.refl _ _).alloc (Nat.le_refl _) _)) rfl (Rd.oneV _ _ _) (by intro u hu; simp at hu; subst hu; rfl) (by omega) (by omega) (hB1.alloc hB1.size _) ?_
           intro A3 c3 w3 hown3 hB3 hg3
           have HK3 := Lib.hid ((HK.out.alloc (.cells #[.int .i64 x] 3)).apart_own (ownsRow_below hown1 ((Below.refl _ _).alloc (Nat.le_refl _) _)) (by decide) hg3)
           obtain ⟨x0, x1, x2, f0, f1, f2⟩ := three HK3.out
           clear hg3)
        | fail)
      obtain ⟨k1, k2, k3⟩ := put3 HK3.out (.int .i64 0) (.slice none 0 0) (.int .i64 (zs.length : Int))
      refine bodyPost_ret (results_tmp_cell_row rfl _ _ _ _ _ _ rfl k1 Tryz.underlying40 rfl (by kernel_rfl)) rfl ?_
      have h3 := k2 w (Nat.le_refl _) hB3
      have e : (zs ++ [x]).length = zs.length + 1 := by simp
      have h4 := k3 _ _ _ _ _ _ hown3 (by decide)
      rw [show iv [] ++ iv zs ++ [Value.int .i64 x] = iv (zs ++ [x]) by simp [iv]] at h4
      exact ⟨A3, c3, none, 0, by rw [e]; rfl, by rw [e]; exact h4, own_nil _ _, h3, h3⟩
theorem refTake_any {W w : World} {zs : List Int} {A : Option Addr} {n c B : Nat} (x : Int) (hn : Lim 1 n) (hr : Rd w B A n (iv zs)) (hB : Below W.heap.size W w) :
    Calls Tryz.prog 128 #[.slice A n c, .int .i64 x] w (GotIR W w (takeS zs x) (takeE zs x) (takeN zs x)) :=
  (refTake_raw x hn hr).mono fun e w' h => GotIR.of hB h
set_option maxHeartbeats 2000000 in
set_option maxRecDepth 100000 in
theorem refFree_raw {w : World} {zs : List Int} {A : Option Addr} {n c B : Nat} (x : Int) (hn : Lim 1 n) (hc : n ≤ c) (hr : Rd w B A n (iv zs)) :
    Calls Tryz.prog 129 #[.slice A n c, .int .i64 x] w (GotIR w w (zs.erase x) (freeE zs x) (freeN zs x)) := by
  have hB := Below.refl w.heap.size w
  have hn := hn.out
  have HR := Lib.hid hr.fit
  obtain rfl : zs.length = n := by have := hr.1; rwa [iv_length] at this
  have b0 : Below w.heap.size w (w.alloc (.cells zeroR 40)) := (Below.refl _ _).alloc (Nat.le_refl _) _
  clear hr
  unfold freeE freeN
  by_cases hx : x ∈ zs
  · rw [if_pos hx, if_pos hx]
    obtain ⟨k, hk, hk1, he⟩ := place_lt hx
    have h0 : ¬ (k : Int) < 0 := by omega
    have HP := Lib.hid hk
    rw [he]
    obtain ⟨N, hN⟩ : ∃ N, (zs.take k ++ zs.drop (k + 1)).head?.getD (-1) = N := ⟨_, rfl⟩
    obtain ⟨L, hL⟩ : ∃ L, zs.take k ++ zs.drop (k + 1) = L := ⟨_, rfl⟩
    rw [hN, hL]
    rw [hL] at hN
    have HN := Lib.hid hN
    have HLL : Hid (iv [] ++ iv (zs.take k) ++ iv (zs.drop (k + 1)) = iv L) := Lib.hid (by rw [← hL]; simp [iv])
    have HLn : Hid (L.length = zs.length - 1) := Lib.hid (by rw [← hL]; simp; omega)
    clear hN hL
    obtain ⟨i0, hi0, _, hi1, _⟩ := info_parts cellI.info
    have e1 : ∀ w : World, (Instr.slice 22 (.slice A zs.length c) none (some (.int .i64 (k : Int))) none).run Tryz.prog w = .ok (.slice A k c) w :=
      fun w => run_slice_to (P := Tryz.prog) Tryz.underlying22 hi0 A zs.length c k (by omega) w
    have e2 : ∀ w : World, (Instr.slice 22 (.slice A zs.length c) (some (.int .i64 ((k : Int) + 1))) none none).run Tryz.prog w = .ok (.slice (cutAt A c (k + 1)) (zs.length - (k + 1)) (c - (k + 1))) w :=
      fun w => by have := run_slice_from (P := Tryz.prog) Tryz.underlying22 hi0 hi1 A zs.length c (k + 1) (by omega) w; rwa [show (((k + 1 : Nat)) : Int) = (k : Int) + 1 by omega] at this
    have hw1 : IntKind.i64.wrap ((k : Int) + 1) = (k : Int) + 1 := IntWalk.i64_in _ (by omega)
    have HR1 := Lib.hid (show Rd w w.heap.size A k (iv (zs.take k)) by rw [iv_take]; exact HR.out.take (by omega))
    have HR2 := Lib.hid (show Rd w w.heap.size (cutAt A c (k + 1)) (zs.length - (k + 1)) (iv (zs.drop (k + 1))) by rw [iv_drop]; exact HR.out.drop (by omega) hc)
    clear hk hx he hi0 hi1
    go_enter Tryz.func129, Tryz.ntmps129
    go_upto_region 4 with (first
      | (go_at_call 156; refine (place_any _ x (HR.out.below b0) (by unfold maxLen; omega)).mono ?_; rintro e w2 ⟨rfl, rfl⟩; rw [HP.out])
      | fail)
    go_region_law (first
      | (refine step_append_cells (W := w) cellI (.tmp 17) (.tmp 20) rfl rfl (by rfl) (ownI_at b0.drew (by simp)) (by rfl) (HR1.out.below (b0.drew.alloc (by simp) _)) (iv_one _) (by omega) (by omega) (b0.drew.alloc (by simp) _) ?_
         intro A1 c1 w1 hown1 hB1 hg1
         have HK := Lib.hid (((Blk.new w 40 zeroR).drew.alloc (.cells #[] 3)).apart_own (ownI_at (W := w) b0.drew (by simp)) (by decide) hg1)
         simp only [Nat.zero_add] at hown1
         clear hg1)
      | (refine step_append_cells (W := w) cellI (.tmp 21) (.tmp 25) rfl rfl (by rfl) hown1 (by rfl) (HR2.out.below hB1) (iv_one _) (by omega) (by omega) hB1 ?_
         intro A2 c2 w2 hown2 hB2 hg2
         have HK2 := Lib.hid (HK.out.apart_own hown1 (by decide) hg2)
         have HO2 := Lib.hid hown2
         clear hg2 hown2))
    have hmm : k + (zs.length - (k + 1)) = L.length := by have := HLn.out; omega
    rw [hmm]
    have hown : OwnI w w2 A2 L.length c2 L := by have h := HO2.out; rw [hmm, HLL.out] at h; exact h
    have HOW := Lib.hid hown
    clear hmm hown HO2 e1 e2 hw1 HR1 HR2 HR HP HK
    rcases Nat.eq_zero_or_pos L.length with h0 | h0
    · have hz : L = [] := List.eq_nil_of_length_eq_zero h0
      subst hz
      have hN : N = -1 := HN.out.symm
      subst hN
      obtain ⟨x0, x1, x2, f0, f1, f2⟩ := three HK2.out
      clear h0
      go_wp2
      obtain ⟨k1, k2, k3⟩ := put3 HK2.out (.int .i64 0) (.slice none 0 0) (.int .i64 (-1))
      refine bodyPost_ret (results_tmp_cell_row rfl _ _ _ _ _ _ rfl k1 Tryz.underlying40 rfl (by kernel_rfl)) rfl ?_
      have h3 := k2 w (Nat.le_refl _) hB2
      exact ⟨none, 0, none, 0, rfl, ownI_nil _ _, own_nil _ _, h3, h3⟩
    · obtain ⟨z, hz⟩ : ∃ z, L[0]? = some z := ⟨_, List.getElem?_eq_getElem h0⟩
      have hv : N = z := by rw [← HN.out, List.head?_eq_getElem?, hz]; rfl
      subst hv
      obtain ⟨g, rfl, hg1, hg2⟩ := own_addr HOW.out h0
      have hcl := (HOW.out.cellAt 0 (by omega)).trans (iv_get hz)
      obtain ⟨x0, x1, x2, f0, f1, f2⟩ := three HK2.out
      have hne : ¬ (L.length : Int) = 0 := by omega
      have hne2 : ((L.length : Int) == 0) = false := by rw [beq_eq_false_iff_ne]; omega
      clear hz hg1 hg2
      go_wp2
      go_region
      all_goals go_wp2
      obtain ⟨k1, k2, k3⟩ := put3 HK2.out (.int .i64 0) (.slice none 0 0) (.int .i64 N)
      refine bodyPost_ret (results_tmp_cell_row rfl _ _ _ _ _ _ rfl k1.drew Tryz.underlying40 rfl (by kernel_rfl)) rfl ?_
      have h3 := (k2 w (Nat.le_refl _) hB2).drew
      exact ⟨some ⟨g, 0, none⟩, c2, none, 0, rfl, k3 _ _ _ _ _ _ HOW.out (by decide), own_nil _ _, h3, h3⟩
  · rw [if_neg hx, if_neg hx, List.erase_of_not_mem hx]
    have HP := Lib.hid (place_no hx)
    clear hx
    go_enter Tryz.func129, Tryz.ntmps129
    go_wp2_with (first
      | (go_at_call 156; refine (place_any _ x (HR.out.below b0) (by unfold maxLen; omega)).mono ?_; rintro e w2 ⟨rfl, rfl⟩; rw [HP.out])
      | (at_builtin
         refine wpList_append_cells (W := w) cellI (.tmp 13) (.tmp 14) rfl (by rfl) rfl (ownI_at b0 (by simp)) rfl (HR.out.below (b0.alloc (by simp) _)) (iv_one _) (by omega) (by omega) (b0.alloc (by simp) _) ?_
         intro A1 c1 w1 hown1 hB1 hg1
         simp only [Nat.zero_add] at hown1
         have HK := Lib.hid (((Blk.new w 40 zeroR).alloc (.cells #[] 3)).apart_own (ownI_at (W := w) b0 (by simp)) (by decide) hg1)
         obtain ⟨x0, x1, x2, f0, f1, f2⟩ := three HK.out
         clear hg1)
      | (go_at_call 117; refine (bad_any _ 5).mono ?_; rintro e w3 ⟨rfl, hb3⟩; unfold resV; clear x0 x1 x2 f0 f1 f2; have HK := Lib.hid (HK.out.below hb3); obtain ⟨x0, x1, x2, f0, f1, f2⟩ := three HK.out)
      | fail)
    obtain ⟨k1, k2, k3⟩ := put3 HK.out (.int .i64 5) (.slice none 0 0) (.int .i64 0)
    refine bodyPost_ret (results_tmp_cell_row rfl _ _ _ _ _ _ rfl k1 Tryz.underlying40 rfl (by kernel_rfl)) rfl ?_
    have h3 := k2 w (Nat.le_refl _) (hB1.trans (hb3.mono hB1.size))
    exact ⟨A1, c1, none, 0, rfl, k3 _ _ _ _ _ _ (ownsRow_below hown1 hb3) (by decide), own_nil _ _, h3, h3⟩
theorem refFree_any {W w : World} {zs : List Int} {A : Option Addr} {n c B : Nat} (x : Int) (hn : Lim 1 n) (hc : n ≤ c) (hr : Rd w B A n (iv zs)) (hB : Below W.heap.size W w) :
    Calls Tryz.prog 129 #[.slice A n c, .int .i64 x] w (GotIR W w (zs.erase x) (freeE zs x) (freeN zs x)) :=
  (refFree_raw x hn hc hr).mono fun e w' h => GotIR.of hB h
theorem refOwner_any (w : World) {zs : List Int} {A : Option Addr} {n c B : Nat} (hr : Rd w B A n (iv zs)) :
    Calls Tryz.prog 130 #[.slice A n c] w fun en w' => en = .returned (resV (ownerE zs) none 0 0 (ownerN zs)) ∧ Below w.heap.size w w' := by
  obtain rfl : zs.length = n := by have := hr.1; rwa [iv_length] at this
  unfold ownerE ownerN
  rcases Nat.eq_zero_or_pos zs.length with h0 | h0
  · have hz : zs = [] := List.eq_nil_of_length_eq_zero h0
    subst hz
    rw [if_pos h0]
    clear h0 hr
    go_enter Tryz.func130, Tryz.ntmps130
    go_wp2_with (first
      | (go_at_call 117; refine (bad_any _ 5).mono ?_; rintro e w3 ⟨rfl, hb3⟩; unfold resV; have HK := Lib.hid ((Blk.new w 40 zeroR).below hb3); obtain ⟨x0, x1, x2, f0, f1, f2⟩ := three HK.out)
      | fail)
    obtain ⟨k1, k2, k3⟩ := put3 HK.out (.int .i64 5) (.slice none 0 0) (.int .i64 0)
    refine bodyPost_ret (results_cell_row rfl _ _ _ _ _ _ _ rfl k1 Tryz.underlying40 rfl (by kernel_rfl)) rfl ?_
    have b0 : Below w.heap.size w (w.alloc (.cells zeroR 40)) := (Below.refl _ _).alloc (Nat.le_refl _) _
    exact ⟨rfl, k2 w (Nat.le_refl _) (b0.trans (hb3.mono b0.size))⟩
  · rw [if_neg (by omega)]
    have hne : ((zs.length : Int) == 0) = false := by rw [beq_eq_false_iff_ne]; omega
    obtain ⟨z, hz⟩ : ∃ z, zs[0]? = some z := ⟨_, List.getElem?_eq_getElem h0⟩
    obtain ⟨b, o, rfl, _⟩ := hr.int_at h0
    have hc := hr.int_cell h0 hz
    have hv : zs.head?.getD 0 = z := by rw [List.head?_eq_getElem?, hz]; rfl
    rw [hv]
    rw [Nat.add_zero] at hc
    have b0 : Below w.heap.size w (w.alloc (.cells zeroR 40)) := (Below.refl _ _).alloc (Nat.le_refl _) _
    have hc0 := (b0.cell (p := ⟨b, o, none⟩) (World.block_lt_of_cell? _ _ hc)).trans hc
    clear hv hz hc hr
    go_enter Tryz.func130, Tryz.ntmps130
    go_wp2
    refine bodyPost_ret (results_cell_row rfl _ _ _ _ _ _ _ rfl (Blk.new w 40 #[.int .i64 0, .slice none 0 0, .int .i64 z]) Tryz.underlying40 rfl (by kernel_rfl)) rfl ?_
    exact ⟨rfl, (Below.refl _ _).alloc (Nat.le_refl _) _⟩
end Go.Proofs.YthfnnieklkaefaaGreat

namespace Go.Proofs.YthfnnieklkaefaaGreat
open Go.RowKit
set_option linter.unusedVariables false
set_option maxHeartbeats 2000000 in
set_option maxRecDepth 100000 in
theorem refPairs_raw (ps : List Pr) (A : Option Addr) (n c B : Nat) (hn : n ≤ 100000) (hL : LimP ps) (w : World) (hr : RdP w B A n ps) :
    Calls Tryz.prog 122 #[.slice A n c] w (GotP w w ps) := by
  have HL := Lib.hid hL
  have HR := Lib.hid hr.fit
  have hlen := hr.length
  clear hr hL
  go_enter Tryz.func122, Tryz.ntmps122
  go_wp2_with fail
  go_loopw [3, 4] (fun s3 s4 wr => ∃ (k c' : Nat) (A' : Option Addr), k ≤ n ∧ s4 = .int .i64 (k : Int) ∧ s3 = .slice A' k c' ∧ Hid (OwnP w wr A' k c' (ps.take k)) ∧ Hid (Below w.heap.size w wr)) (fun _ s4 _ => n - (intOf s4).toNat)
  case atStart => exact ⟨0, 0, none, Nat.zero_le _, rfl, rfl, Lib.hid (by simpa using OwnP.nil w w), Lib.hid (Below.refl _ _)⟩
  case round =>
    obtain ⟨k, c', A', hk, rfl, rfl, HO, HB⟩ := hrel
    by_cases hlt : k < n
    · obtain ⟨b, o, p, A1, c1, A2, c2, rfl, hp, hcell1, hcell2, hrd1, hrd2⟩ := ((HR.out.below HB.out).fit).at hlt
      have hl1 : Lim 0 p.1.length := (HL.out p (List.mem_of_getElem? hp)).1
      have hl2 : Lim 0 p.2.length := (HL.out p (List.mem_of_getElem? hp)).2
      have hblt1 := World.block_lt_of_cell? _ _ hcell1
      have HC : Hid (∀ wx, Below wr.heap.size wr wx → wx.cell? ⟨b, o + k * 2, none⟩ = some (.slice A1 p.1.length c1) ∧ wx.cell? ⟨b, o + k * 2 + 1, none⟩ = some (.slice A2 p.2.length c2)) := Lib.hid (fun wx hb => ⟨(hb.cell (p := ⟨b, o + k * 2, none⟩) hblt1).trans hcell1, (hb.cell (p := ⟨b, o + k * 2 + 1, none⟩) hblt1).trans hcell2⟩)
      have HRD1 := Lib.hid hrd1
      have HRD2 := Lib.hid hrd2
      have HP := Lib.hid hp
      clear hrd1 hrd2 hp
      go_upto_region 5 with fail
      have hc0 := HC.out wr.drew (Below.refl _ _).drew
      obtain ⟨hcA, hcB⟩ := hc0
      go_region_law (first
        | (refine step_append_S (W := w) cellP (.tmp 11) (.tmp 25) rfl rfl (by rfl) (ownsRow_below hv1 ((Below.refl _ _).alloc (Nat.le_refl _) _)) (by rfl) (Rd.twoAt _ _ _ _ rfl) (by intro u hu; simp at hu; rcases hu with rfl | rfl <;> rfl) (by omega) (by omega) (hB2.alloc hB2.size _) ?_
           intro A3 c3 w3 hown3 hB3 hg3)
        | (rw [if_pos (by kernel_rfl)]; go_simp; go_at_call_of 120 A1; refine (ownref_any (W := w) hl1 HRD1.out.drew HB.out.drew).mono ?_; rintro e w1 ⟨A4, c4, rfl, ho1, hB1, hb1⟩; obtain ⟨hcA, hcB⟩ := HC.out w1 ((Below.refl _ _).drew.trans hb1); go_simp)
        | (rw [if_pos (by kernel_rfl)]; go_simp; go_at_call_of 120 A2; refine (ownref_any (W := w) hl2 (HRD2.out.below ((Below.refl _ _).drew.trans hb1)) hB1).mono ?_; rintro e w2 ⟨A5, c5, rfl, ho2, hB2, hb2⟩; have ho1 := own_below ho1 hb2; obtain ⟨vs, hv1, hv2⟩ := (HO.out.below ((Below.refl _ _).drew.trans hb1)).below hb2; go_simp))
      all_goals go_wp2_with fail
      all_goals go_roundw
      all_goals first
        | (simp only [intOf]; omega)
        | (refine ⟨k + 1, c3, A3, by omega, by go_num, rfl, Lib.hid ?_, Lib.hid hB3⟩
           have b1 : Below w2.heap.size w2 (w2.alloc (.cells #[.slice A4 p.1.length c4, .slice A5 p.2.length c5] 86)) := (Below.refl _ _).alloc (Nat.le_refl _) _
           refine ⟨vs ++ [.slice A4 p.1.length c4, .slice A5 p.2.length c5], hown3, ?_⟩
           rw [List.take_add_one, HP.out, flat_append]
           exact ((hv2.two ho1 ho2).below b1).grownP (ownsRow_below hv1 b1) hg3)
    · obtain rfl : k = n := by omega
      go_wp2_with fail
      go_ret
      have HO2 := HO.out
      rw [List.take_of_length_le (by omega)] at HO2
      subst hlen
      exact ⟨A', c', rfl, HO2, HB.out, HB.out⟩
theorem refPairs_any {W w : World} {ps : List Pr} {A : Option Addr} {n c B : Nat} (hn : n ≤ 100000) (hL : LimP ps) (hr : RdP w B A n ps) (hB : Below W.heap.size W w) :
    Calls Tryz.prog 122 #[.slice A n c] w (GotP W w ps) :=
  (refPairs_raw ps A n c B hn hL w hr).mono fun e w' h => GotP.of hB h
theorem keys_at {ps : List Pr} {k : Nat} {p : Pr} (h : ps[k]? = some p) : (Mp.keys ps)[k]? = some p.1 := by unfold Mp.keys; rw [List.getElem?_map, h]; rfl
theorem keys_length (ps : List Pr) : (Mp.keys ps).length = ps.length := by simp [Mp.keys]
theorem belowN_ {B : Nat} {a w : World} (h : Below B a w) (k : Nat) : Below B a (w.drewN k) := h.trans ⟨rfl, rfl, rfl, Nat.le_refl _, fun _ _ => rfl⟩
set_option maxHeartbeats 1000000 in
theorem refKey_any (w : World) {A A' : Option Addr} {n c n' c' B B' : Nat} {ps : List Pr} {k : List Nat} (hn : n ≤ 100000) (hb : BytesP ps) (hbk : ∀ x ∈ k, x < 256) (h : RdP w B A n ps) (h' : Rd w B' A' n' (bv k)) :
    Calls Tryz.prog 157 #[.slice A n c, .slice A' n' c'] w fun e w' => e = .returned (.int .i64 (Mp.place (Mp.keys ps) k)) ∧ ∃ m, w' = w.drewN m := by
  have HL := Lib.hid h.length
  have H := Lib.hid h.fit
  have H' := Lib.hid h'.fit
  have HB := Lib.hid hb
  have HBK := Lib.hid hbk
  clear h h' hb hbk
  go_enter Tryz.func157, Tryz.ntmps157
  go_wp2
  go_loopw [5] (fun i wr => ∃ j : Nat, j ≤ n ∧ i = .int .i64 j ∧ Hid (∀ i, i < j → (Mp.keys ps)[i]? ≠ some k) ∧ ∃ m, wr = w.drewN m) (fun i _ => n - (intOf i).toNat)
  case atStart => exact ⟨0, Nat.zero_le _, rfl, Lib.hid (fun j hj => absurd hj (by omega)), 0, rfl⟩
  case round =>
    obtain ⟨j, hj, rfl, HS, m, hm⟩ := hrel
    have HM := Lib.hid hm
    by_cases hlt : j < n
    · obtain ⟨b, o, p, A1, c1, A2, c2, rfl, hp, hcell1, _, hrd1, _⟩ := H.out.at hlt
      have hc1 : wr.cell? ⟨b, o + j * 2, none⟩ = some (.slice A1 p.1.length c1) := by rw [hm]; exact hcell1
      have hv : IntKind.i64.wrap ((j : Int) + 1) = (j : Int) + 1 := IntWalk.i64_in _ (by omega)
      have hs1 : ∀ q, (convert 24 9 (.slice A1 p.1.length c1)).run Tryz.prog (wr.drewN q) = .ok (.string (strB p.1)) (wr.drewN q) := fun q => by rw [hm]; exact str_of (c := c1) ((hrd1.drewN m).drewN q)
      have hs2 : ∀ q, (convert 24 9 (.slice A' n' c')).run Tryz.prog (wr.drewN q) = .ok (.string (strB k)) (wr.drewN q) := fun q => by rw [hm]; exact str_of (c := c') ((H'.out.drewN m).drewN q)
      have hs3 := strL_eq (HB.out p (List.mem_of_getElem? hp)).1 HBK.out
      have HP := Lib.hid hp
      clear hp hcell1 hrd1 hm
      by_cases he : p.1 = k
      · have HE := Lib.hid (Mp.place_first (by rw [keys_at HP.out, he]) HS.out)
        rw [decide_eq_true he] at hs3
        clear he
        go_wp2
        go_quiet (fail)
        go_wp2
        go_ret
        exact ⟨ret_int HE.out.symm, m + nq, by rw [HM.out, World.drewN_drewN]⟩
      · rw [decide_eq_false he] at hs3
        have HNE := Lib.hid he
        clear he
        go_wp2
        go_quiet (fail)
        go_wp2
        go_roundw
        case rel =>
          refine ⟨j + 1, by omega, by go_num, Lib.hid (fun i hi => ?_), m + nq, by rw [HM.out, World.drewN_drewN]⟩
          rcases Nat.lt_or_ge i j with h1 | h1
          · exact HS.out i h1
          · obtain rfl : i = j := by omega
            rw [keys_at HP.out]
            intro h; injection h with h; exact HNE.out h
        case measure => simp [intOf]; omega
    · obtain rfl : j = n := by omega
      have HP := Lib.hid (Mp.place_none (s := Mp.keys ps) (x := k) (by rw [keys_length, HL.out]; exact HS.out))
      clear hm
      go_wp2
      go_ret
      exact ⟨ret_int HP.out.symm, m, HM.out⟩
end Go.Proofs.YthfnnieklkaefaaGreat

namespace Go.Proofs.YthfnnieklkaefaaGreat
open Go.RowKit
set_option linter.unusedVariables false
theorem belowN_d {w : World} (m : Nat) : Below w.heap.size w (w.drewN m) := belowN_ (Below.refl _ _) m
/-- a result, whose bytes are W's own, as it lies in the variable at b -/
theorem refGet_raw {w : World} {ps : List Pr} {k : List Nat} {A A' : Option Addr} {n c n' c' B B' : Nat} (hn : n ≤ 100000) (hL : LimP ps) (hb : BytesP ps) (hbk : ∀ x ∈ k, x < 256) (h : RdP w B A n ps) (h' : Rd w B' A' n' (bv k)) :
    Calls Tryz.prog 132 #[.slice A n c, .slice A' n' c'] w (GotR w w (Mp.getE ps k) (Mp.getV ps k) 0) := by
  have hlen := h.length
  have H := Lib.hid h.fit
  have H' := Lib.hid h'.fit
  have HL := Lib.hid hL
  have HB := Lib.hid hb
  have HBK := Lib.hid hbk
  have b0 : Below w.heap.size w (w.alloc (.cells zeroR 40)) := (Below.refl _ _).alloc (Nat.le_refl _) _
  clear h h' hL hb hbk
  unfold Mp.getE Mp.getV
  by_cases hk : k ∈ Mp.keys ps
  · rw [if_pos hk, if_pos hk]
    obtain ⟨i, ei, hi, hix⟩ := Mp.place_lt hk
    rw [hix]
    have hin : i < n := by
      have h1 : i < (Mp.keys ps).length := by
        rcases Nat.lt_or_ge i (Mp.keys ps).length with h | h
        · exact h
        · rw [List.getElem?_eq_none h] at hi; cases hi
      rw [keys_length, hlen] at h1; exact h1
    obtain ⟨b, o, p, A1, c1, A2, c2, rfl, hp, _, hcell2, _, hrd2⟩ := H.out.at hin
    have hv : (ps[i]?.map (·.2)).getD [] = p.2 := by rw [hp]; rfl
    rw [hv]
    have hl2 : Lim 0 p.2.length := (HL.out p (List.mem_of_getElem? hp)).2
    have hlt2 := World.block_lt_of_cell? _ _ hcell2
    have HC : Hid (∀ wx, Below w.heap.size w wx → wx.cell? ⟨b, o + i * 2 + 1, none⟩ = some (.slice A2 p.2.length c2)) := Lib.hid (fun wx hb => (hb.cell (p := ⟨b, o + i * 2 + 1, none⟩) hlt2).trans hcell2)
    have HRD := Lib.hid hrd2
    have HE := Lib.hid ei
    have h0 : (0 : Int) ≤ (i : Int) := by omega
    have h1 : (i : Int) < (n : Int) := by omega
    clear hv hix hi hcell2 hrd2 ei hp hk
    go_enter Tryz.func132, Tryz.ntmps132
    go_wp2_with fail
    refine (refKey_any _ (k := k) hn HB.out HBK.out (H.out.below b0) (H'.out.below b0)).mono ?_
    rintro e w1 ⟨rfl, m, rfl⟩
    rw [HE.out]
    have hc1 := HC.out _ (belowN_ b0 m)
    have HK := Lib.hid ((Blk.new w 40 zeroR).below (belowN_d m))
    go_wp2_with (first
      | (go_at_call 120; refine (ownref_any (W := w) hl2 (HRD.out.below (belowN_ b0 m)) (belowN_ b0 m)).mono ?_; rintro e w2 ⟨A3, c3, rfl, ho2, hB2, hb2⟩; have HK := Lib.hid (HK.out.below hb2); obtain ⟨x0, x1, x2, f0, f1, f2⟩ := three HK.out)
      | fail)
    obtain ⟨k1, k2, k3⟩ := put3 HK.out (.int .i64 0) (.slice A3 p.2.length c3) (.int .i64 0)
    refine bodyPost_ret (results_cell_row rfl _ _ _ _ _ _ _ rfl k1 Tryz.underlying40 rfl (by kernel_rfl)) rfl ?_
    have h3 := k2 w (Nat.le_refl _) hB2
    exact ⟨A3, c3, rfl, k3 _ _ _ _ _ _ ho2 (by decide), h3, h3⟩
  · rw [if_neg hk, if_neg hk]
    have HE := Lib.hid (Mp.place_no hk)
    clear hk
    go_enter Tryz.func132, Tryz.ntmps132
    go_wp2_with fail
    refine (refKey_any _ (k := k) hn HB.out HBK.out (H.out.below b0) (H'.out.below b0)).mono ?_
    rintro e w1 ⟨rfl, m, rfl⟩
    rw [HE.out]
    have HK := Lib.hid ((Blk.new w 40 zeroR).below (belowN_d m))
    go_wp2_with (first
      | (go_at_call 117; refine (bad_any _ 5).mono ?_; rintro e w3 ⟨rfl, hb3⟩; unfold resV; have HK := Lib.hid (HK.out.below hb3); obtain ⟨x0, x1, x2, f0, f1, f2⟩ := three HK.out)
      | fail)
    obtain ⟨k1, k2, k3⟩ := put3 HK.out (.int .i64 5) (.slice none 0 0) (.int .i64 0)
    refine bodyPost_ret (results_cell_row rfl _ _ _ _ _ _ _ rfl k1 Tryz.underlying40 rfl (by kernel_rfl)) rfl ?_
    have hB3 := (belowN_ b0 m).trans (hb3.mono (belowN_ b0 m).size)
    have h3 := k2 w (Nat.le_refl _) hB3
    exact ⟨none, 0, rfl, own_nil _ _, h3, h3⟩
theorem refGet_any {W w : World} {ps : List Pr} {k : List Nat} {A A' : Option Addr} {n c n' c' B B' : Nat} (hn : n ≤ 100000) (hL : LimP ps) (hb : BytesP ps) (hbk : ∀ x ∈ k, x < 256) (h : RdP w B A n ps) (h' : Rd w B' A' n' (bv k)) (hB : Below W.heap.size W w) :
    Calls Tryz.prog 132 #[.slice A n c, .slice A' n' c'] w (GotR W w (Mp.getE ps k) (Mp.getV ps k) 0) :=
  (refGet_raw hn hL hb hbk h h').mono fun e w' ⟨A, c, h1, h2, h3, h4⟩ => ⟨A, c, h1, more_ hB.size h2, hB.trans (h3.mono hB.size), h4⟩
end Go.Proofs.YthfnnieklkaefaaGreat

namespace Go.Proofs.YthfnnieklkaefaaGreat
open Go.RowKit
set_option linter.unusedVariables false
theorem refKey_bel (w : World) {A A' : Option Addr} {n c n' c' B B' : Nat} {ps : List Pr} {k : List Nat} (hn : n ≤ 100000) (hb : BytesP ps) (hbk : ∀ x ∈ k, x < 256) (h : RdP w B A n ps) (h' : Rd w B' A' n' (bv k)) :
    Calls Tryz.prog 157 #[.slice A n c, .slice A' n' c'] w fun e w' => e = .returned (.int .i64 (Mp.place (Mp.keys ps) k)) ∧ Below w.heap.size w w' :=
  (refKey_any w hn hb hbk h h').mono fun e w' ⟨h1, m, h2⟩ => ⟨h1, by rw [h2]; exact belowN_d m⟩
theorem Owns.take {W w : World} {vs : List Value} {qs : List (List Nat)} (h : Owns W w vs qs) (k : Nat) : Owns W w (vs.take k) (qs.take k) :=
  ⟨by simp [h.len], fun i l hl => by
    have hi : i < k := by
      rcases Nat.lt_or_ge i k with h' | h'
      · exact h'
      · rw [List.getElem?_eq_none (by simp; omega)] at hl; cases hl
    rw [List.getElem?_take_of_lt hi] at hl ⊢
    exact h.cell i l hl⟩
theorem Owns.drop {W w : World} {vs : List Value} {qs : List (List Nat)} (h : Owns W w vs qs) (k : Nat) : Owns W w (vs.drop k) (qs.drop k) :=
  ⟨by simp [h.len], fun i l hl => by rw [List.getElem?_drop] at hl ⊢; exact h.cell _ l hl⟩
theorem Owns.append {W w : World} {vs vs' : List Value} {qs qs' : List (List Nat)} (h : Owns W w vs qs) (h' : Owns W w vs' qs') : Owns W w (vs ++ vs') (qs ++ qs') :=
  ⟨by simp [h.len, h'.len], fun i l hl => by
    rcases Nat.lt_or_ge i qs.length with hi | hi
    · rw [List.getElem?_append_left hi] at hl
      rw [List.getElem?_append_left (by rw [h.len]; exact hi)]
      exact h.cell i l hl
    · rw [List.getElem?_append_right hi] at hl
      rw [List.getElem?_append_right (by rw [h.len]; exact hi), h.len]
      exact h'.cell _ l hl⟩
theorem flat_erase (ps : List Pr) (i : Nat) : flat (ps.eraseIdx i) = (flat ps).take (i * 2) ++ (flat ps).drop ((i + 1) * 2) := by
  rw [List.eraseIdx_eq_take_drop_succ, flat_append, flat_take, flat_drop]
theorem own_drew {w : World} {base n size : Nat} {e : TypeId} {v : Value} {vs : List Value} (h : w.ownsRow base e size v n vs) : w.drew.ownsRow base e size v n vs := h
set_option maxHeartbeats 2000000 in
set_option maxRecDepth 100000 in
theorem refDel_raw {w : World} {ps : List Pr} {k : List Nat} {A A' : Option Addr} {n c n' c' B B' : Nat} (hn : n ≤ 100000) (hL : LimP ps) (hb : BytesP ps) (hbk : ∀ x ∈ k, x < 256) (h : RdP w B A n ps) (h' : Rd w B' A' n' (bv k)) :
    Calls Tryz.prog 133 #[.slice A n c, .slice A' n' c'] w (GotPR w w (Mp.delS ps k) (Mp.getE ps k) (Mp.getV ps k) 0) := by
  obtain rfl := h.length
  have H := Lib.hid h.fit
  have H' := Lib.hid h'.fit
  have HL := Lib.hid hL
  have HB := Lib.hid hb
  have HBK := Lib.hid hbk
  have b0 : Below w.heap.size w (w.alloc (.cells zeroR 40)) := (Below.refl _ _).alloc (Nat.le_refl _) _
  clear h h' hL hb hbk
  unfold Mp.getE Mp.getV Mp.delS
  by_cases hk : k ∈ Mp.keys ps
  · rw [if_pos hk, if_pos hk, if_pos hk]
    obtain ⟨i, ei, hi, hix⟩ := Mp.place_lt hk
    rw [hix]
    have hin : i < ps.length := by
      have h1 : i < (Mp.keys ps).length := by
        rcases Nat.lt_or_ge i (Mp.keys ps).length with h | h
        · exact h
        · rw [List.getElem?_eq_none h] at hi; cases hi
      rwa [keys_length] at h1
    obtain ⟨p, hp⟩ : ∃ p, ps[i]? = some p := ⟨_, List.getElem?_eq_getElem hin⟩
    have hv : (ps[i]?.map (·.2)).getD [] = p.2 := by rw [hp]; rfl
    rw [hv]
    have HE := Lib.hid ei
    have HP := Lib.hid hp
    have h0 : ¬ (i : Int) < 0 := by omega
    have h1 : (i : Int) < (ps.length : Int) := by omega
    clear hv hix hi ei hp hk
    go_enter Tryz.func133, Tryz.ntmps133
    go_wp2_with fail
    refine (refPairs_any (W := w) hn HL.out (H.out.below b0) b0).mono ?_
    rintro e w1 ⟨A1, c1, rfl, ⟨vs, hrow, hown⟩, hB1, hb1⟩
    have hcap := (own_cap hrow).1
    have HK := Lib.hid ((Blk.new w 40 zeroR).below hb1)
    go_wp2_with fail
    refine (refKey_bel _ (k := k) hn HB.out HBK.out (H.out.below hB1) (H'.out.below hB1)).mono ?_
    rintro e w2 ⟨rfl, hb2⟩
    rw [HE.out]
    have hrow2 := ownsRow_below hrow hb2
    have hown2 := hown.below hb2
    obtain ⟨A2, c2, hcv, hov⟩ := hown2.cell (i * 2 + 1) p.2 (by rw [flat_val, HP.out]; rfl)
    obtain ⟨g, rfl, hg1, hg2⟩ := own_addrS hrow2 (by omega)
    have hcell := (hrow2.cellAt (i * 2 + 1) (by omega)).trans hcv
    have HROW := Lib.hid hrow2
    have HOWN := Lib.hid hown2
    have HB2 := Lib.hid (hB1.trans (hb2.mono hB1.size))
    have HOV := Lib.hid hov
    have HK := Lib.hid (HK.out.below hb2)
    obtain ⟨i0, hi0, _, hi1, _⟩ := info_parts cellP.info
    have q1 : ∀ w : World, (Instr.slice 32 (.slice (some ⟨g, 0, none⟩) ps.length c1) none (some (.int .i64 (i : Int))) none).run Tryz.prog w = .ok (.slice (some ⟨g, 0, none⟩) i c1) w :=
      fun w => run_slice_to (P := Tryz.prog) Tryz.underlying32 hi0 (some ⟨g, 0, none⟩) ps.length c1 i (by omega) w
    have q2 : ∀ w : World, (Instr.slice 32 (.slice (some ⟨g, 0, none⟩) ps.length c1) (some (.int .i64 ((i : Int) + 1))) none none).run Tryz.prog w = .ok (.slice (cutS (some ⟨g, 0, none⟩) c1 (i + 1) 2) (ps.length - (i + 1)) (c1 - (i + 1))) w :=
      fun w => by have := run_slice_fromS_ (P := Tryz.prog) Tryz.underlying32 hi0 hi1 (some ⟨g, 0, none⟩) ps.length c1 (i + 1) (by omega) w; rwa [show (((i + 1 : Nat)) : Int) = (i : Int) + 1 by omega] at this
    have hw1 : IntKind.i64.wrap ((i : Int) + 1) = (i : Int) + 1 := IntWalk.i64_in _ (by omega)
    have HR2 := Lib.hid ((Rd.ownS hrow2 (by omega)).dropS (k := i + 1) (c := c1) (by omega) hcap).drew
    have HPRE := Lib.hid (own_drew (own_prefix hrow2 (k := i) (by omega)))
    have HONE := Lib.hid hown.one
    clear hrow hown hB1 hb1 hov hcv hi0 hi1 hg1 hg2 hrow2 hown2 hb2
    go_upto_region 6 with fail
    clear hcell
    obtain ⟨x0, x1, x2, f0, f1, f2⟩ := three HK.out
    have HROWd := Lib.hid (own_drew HROW.out)
    have HBd := Lib.hid HB2.out.drew
    go_region_law (refine step_append_S (W := w) (A := some ⟨g, 0, none⟩) (n := i) (c := c1) (A' := cutS (some ⟨g, 0, none⟩) c1 (i + 1) 2) (m := ps.length - (i + 1)) (c' := c1 - (i + 1)) cellP (.tmp 25) (.tmp 29) rfl rfl (by simp [Act.eval, Act.put]) HPRE.out (by simp [Act.eval, Act.put]) HR2.out (fun u hu => HONE.out u (List.mem_of_mem_drop hu)) (by omega) (by omega) HBd.out ?_
                   intro A3 c3 w3 hown3 hB3 hg3
                   have HK3 := Lib.hid (HK.out.drew.apart_own HPRE.out (by decide) hg3)
                   clear x0 x1 x2 f0 f1 f2
                   obtain ⟨x0, x1, x2, f0, f1, f2⟩ := three HK3.out)
    all_goals go_wp2
    all_goals
      have hel : (ps.eraseIdx i).length = i + (ps.length - (i + 1)) := by rw [List.length_eraseIdx_of_lt (by omega)]; omega
      obtain ⟨k1, k2, k3⟩ := put3 HK3.out (.int .i64 0) (.slice A2 p.2.length c2) (.int .i64 0)
      refine bodyPost_ret (results_tmp_cell_row rfl _ _ _ _ _ _ rfl k1 Tryz.underlying40 rfl (by kernel_rfl)) rfl ?_
      have ho3 : OwnP w w3 A3 (i + (ps.length - (i + 1))) c3 (ps.eraseIdx i) := ⟨_, hown3, by
        rw [flat_erase]
        exact (((HOWN.out.take (i * 2)).append (HOWN.out.drop ((i + 1) * 2))).below (Below.refl _ _).drew).grownP HPRE.out hg3⟩
      have hv3 := own_grown_t (w := w2.drew) (own_drew HOV.out) HPRE.out (by decide) hg3
      have h3 := k2 w (Nat.le_refl _) hB3
      exact ⟨A3, c3, A2, c2, by rw [hel]; rfl, by rw [hel]; exact ho3.put3 HK3.out (by decide) (by decide) _ _ _, k3 _ _ _ _ _ _ hv3 (by decide), h3, h3⟩
  · rw [if_neg hk, if_neg hk, if_neg hk]
    have HE := Lib.hid (Mp.place_no hk)
    clear hk
    go_enter Tryz.func133, Tryz.ntmps133
    go_wp2_with fail
    refine (refPairs_any (W := w) hn HL.out (H.out.below b0) b0).mono ?_
    rintro e w1 ⟨A1, c1, rfl, ho1, hB1, hb1⟩
    have HK := Lib.hid ((Blk.new w 40 zeroR).below hb1)
    go_wp2_with fail
    refine (refKey_bel _ (k := k) hn HB.out HBK.out (H.out.below hB1) (H'.out.below hB1)).mono ?_
    rintro e w2 ⟨rfl, hb2⟩
    rw [HE.out]
    go_wp2_with (first
      | (go_at_call 117; refine (bad_any _ 5).mono ?_; rintro e w3 ⟨rfl, hb3⟩; unfold resV; have HK := Lib.hid ((HK.out.below hb2).below hb3); obtain ⟨x0, x1, x2, f0, f1, f2⟩ := three HK.out)
      | fail)
    obtain ⟨k1, k2, k3⟩ := put3 HK.out (.int .i64 5) (.slice none 0 0) (.int .i64 0)
    refine bodyPost_ret (results_tmp_cell_row rfl _ _ _ _ _ _ rfl k1 Tryz.underlying40 rfl (by kernel_rfl)) rfl ?_
    have hB2 := hB1.trans (hb2.mono hB1.size)
    have h3 := k2 w (Nat.le_refl _) (hB2.trans (hb3.mono hB2.size))
    exact ⟨A1, c1, none, 0, rfl, ((ho1.below hb2).below hb3).put3 HK.out (by decide) (by decide) _ _ _, own_nil _ _, h3, h3⟩
theorem refDel_any {W w : World} {ps : List Pr} {k : List Nat} {A A' : Option Addr} {n c n' c' B B' : Nat} (hn : n ≤ 100000) (hL : LimP ps) (hb : BytesP ps) (hbk : ∀ x ∈ k, x < 256) (h : RdP w B A n ps) (h' : Rd w B' A' n' (bv k)) (hB : Below W.heap.size W w) :
    Calls Tryz.prog 133 #[.slice A n c, .slice A' n' c'] w (GotPR W w (Mp.delS ps k) (Mp.getE ps k) (Mp.getV ps k) 0) :=
  (refDel_raw hn hL hb hbk h h').mono fun e w' h => GotPR.of hB h
end Go.Proofs.YthfnnieklkaefaaGreat

namespace Go.Proofs.YthfnnieklkaefaaGreat
open Go.RowKit
set_option linter.unusedVariables false
/-- the cells vs with two more at place i -/
def hole (vs : List Value) (i : Nat) (x y : Value) : List Value := vs.take (i * 2) ++ [x, y] ++ vs.drop (i * 2)
theorem hole_set {vs : List Value} {i : Nat} {x y a b : Value} (h : i * 2 ≤ vs.length) : ((hole vs i x y).set (i * 2) a).set (i * 2 + 1) b = hole vs i a b := by
  unfold hole
  have e : (vs.take (i * 2)).length = i * 2 := by rw [List.length_take]; omega
  rw [List.append_assoc, List.append_assoc, List.set_append_right _ _ (by omega), e, Nat.sub_self, List.set_append_right _ _ (by omega), e, show i * 2 + 1 - i * 2 = 1 by omega]
  rfl
theorem hole_back {vs : List Value} {i : Nat} {a b : Value} (h1 : vs[i * 2]? = some a) (h2 : vs[i * 2 + 1]? = some b) : hole vs (i + 1) a b = hole vs i a b := by
  unfold hole
  have e1 : vs.take ((i + 1) * 2) = vs.take (i * 2) ++ [a, b] := by
    rw [show (i + 1) * 2 = i * 2 + 1 + 1 by omega, List.take_add_one, List.take_add_one, h1, h2]; simp
  have e2 : vs.drop (i * 2) = a :: b :: vs.drop ((i + 1) * 2) := by
    rw [show (i + 1) * 2 = i * 2 + 1 + 1 by omega]
    rw [List.drop_eq_getElem?_toList_append, h1, List.drop_eq_getElem?_toList_append (i := i * 2 + 1), h2]; rfl
  rw [e1, e2]; simp
theorem hole_at {vs : List Value} {i j : Nat} {x y : Value} (h : j < i * 2) (hl : i * 2 ≤ vs.length) : (hole vs i x y)[j]? = vs[j]? := by
  unfold hole
  rw [List.append_assoc, List.getElem?_append_left (by rw [List.length_take]; omega), List.getElem?_take_of_lt h]
theorem hole_end {vs : List Value} {n : Nat} {x y : Value} (h : vs.length = n * 2) : vs ++ [x, y] = hole vs n x y := by
  unfold hole
  rw [← h, List.take_length, List.drop_length]; simp
theorem Owns.set {W w : World} {vs : List Value} {qs : List (List Nat)} {A : Option Addr} {c : Nat} {l : List Nat} (h : Owns W w vs qs) (ho : OwnB W w A l.length c l) (i : Nat) : Owns W w (vs.set i (.slice A l.length c)) (qs.set i l) :=
  ⟨by simp [h.len], fun j l' hl => by
    by_cases hij : i = j
    · subst hij
      have hlt : i < qs.length := by
        rcases Nat.lt_or_ge i qs.length with h' | h'
        · exact h'
        · rw [List.getElem?_eq_none (by simpa using h')] at hl; cases hl
      rw [List.getElem?_set_self hlt] at hl
      injection hl with hl
      subst hl
      exact ⟨A, c, by rw [List.getElem?_set_self (by rw [h.len]; exact hlt)], ho⟩
    · rw [List.getElem?_set_ne hij] at hl ⊢
      exact h.cell j l' hl⟩
theorem flat_setval {ps : List Pr} {i : Nat} {p : Pr} {k v : List Nat} (h : ps[i]? = some p) (hk : p.1 = k) : flat (ps.set i (k, v)) = (flat ps).set (i * 2 + 1) v := by
  induction ps generalizing i with
  | nil => simp at h
  | cons q ps ih =>
    cases i with
    | zero => simp at h; subst h; subst hk; rfl
    | succ i =>
      rw [List.set_cons_succ, flat_cons, flat_cons, ih (by simpa using h), show (i + 1) * 2 + 1 = (i * 2 + 1) + 1 + 1 by omega]; rfl
theorem flat_insert (ps : List Pr) (i : Nat) (k v : List Nat) : flat (ps.take i ++ (k, v) :: ps.drop i) = (flat ps).take (i * 2) ++ [k, v] ++ (flat ps).drop (i * 2) := by
  rw [flat_append, flat_cons, flat_take, flat_drop]; simp
theorem bytesLess_strB {l m : List Nat} (hl : ∀ x ∈ l, x < 256) (hm : ∀ x ∈ m, x < 256) : Go.Op.bytesLess (strB l).toList (strB m).toList = Mp.ltB l m := by
  have e : ∀ l : List Nat, (strB l).toList = l.map UInt8.ofNat := fun l => by
    rw [ByteArray.toList_eq]; unfold strB strOfNums; simp [Function.comp_def]
  rw [e, e]
  induction l generalizing m with
  | nil => cases m <;> rfl
  | cons a l ih =>
    cases m with
    | nil => rfl
    | cons b m =>
      have ha := hl a (by simp)
      have hb := hm b (by simp)
      simp only [List.map_cons, Go.Op.bytesLess, Mp.ltB]
      rw [ih (fun x hx => hl x (by simp [hx])) (fun x hx => hm x (by simp [hx]))]
      have h1 : decide (UInt8.ofNat a < UInt8.ofNat b) = decide (a < b) := by
        rw [decide_eq_decide, UInt8.lt_iff_toNat_lt]; simp; omega
      have h2 : (UInt8.ofNat a == UInt8.ofNat b) = decide (a = b) := by
        rw [Bool.eq_iff_iff, beq_iff_eq, decide_eq_true_iff]
        constructor
        · intro h; have := congrArg UInt8.toNat h; simp at this; omega
        · intro h; rw [h]
      rw [h1, h2]
end Go.Proofs.YthfnnieklkaefaaGreat

namespace Go.Proofs.YthfnnieklkaefaaGreat
open Go.RowKit
set_option linter.unusedVariables false
/-- refused: too long -/
theorem refPut_long {w : World} {ps : List Pr} {k v : List Nat} {A A' A'' : Option Addr} {n c n' c' n'' c'' B B' B'' : Nat} (hn : n ≤ 100000) (hL : LimP ps) (hlong : 8 < n' ∨ 16 < n'') (h : RdP w B A n ps) (h' : Rd w B' A' n' (bv k)) (h'' : Rd w B'' A'' n'' (bv v)) :
    Calls Tryz.prog 131 #[.slice A n c, .slice A' n' c', .slice A'' n'' c''] w (GotPR w w ps 1 [] 0) := by
  have H := Lib.hid h.fit
  have HL := Lib.hid hL
  have HLEN := Lib.hid h.length
  have b0 : Below w.heap.size w (w.alloc (.cells zeroR 40)) := (Below.refl _ _).alloc (Nat.le_refl _) _
  clear h h' h'' hL
  by_cases h8 : 8 < n'
  · have h8i : (8 : Int) < (n' : Int) := by omega
    clear hlong
    go_enter Tryz.func131, Tryz.ntmps131
    go_wp2_with (first
      | (go_at_call 122; refine (refPairs_any (W := w) hn HL.out (H.out.below b0) b0).mono ?_; rintro e w1 ⟨A1, c1, rfl, ho1, hB1, hb1⟩; have HK := Lib.hid ((Blk.new w 40 zeroR).below hb1))
      | (go_at_call 117; refine (bad_any _ 1).mono ?_; rintro e w3 ⟨rfl, hb3⟩; unfold resV; have HK := Lib.hid (HK.out.below hb3); obtain ⟨x0, x1, x2, f0, f1, f2⟩ := three HK.out)
      | fail)
    obtain ⟨k1, k2, k3⟩ := put3 HK.out (.int .i64 1) (.slice none 0 0) (.int .i64 0)
    refine bodyPost_ret (results_tmp_cell_row rfl _ _ _ _ _ _ rfl k1 Tryz.underlying40 rfl (by kernel_rfl)) rfl ?_
    have h3 := k2 w (Nat.le_refl _) (hB1.trans (hb3.mono hB1.size))
    exact ⟨A1, c1, none, 0, rfl, (ho1.below hb3).put3 HK.out (by decide) (by decide) _ _ _, own_nil _ _, h3, h3⟩
  · have h8i : ¬ (8 : Int) < (n' : Int) := by omega
    have h16i : (16 : Int) < (n'' : Int) := by omega
    clear hlong
    go_enter Tryz.func131, Tryz.ntmps131
    go_wp2_with (first
      | (go_at_call 122; refine (refPairs_any (W := w) hn HL.out (H.out.below b0) b0).mono ?_; rintro e w1 ⟨A1, c1, rfl, ho1, hB1, hb1⟩; have HK := Lib.hid ((Blk.new w 40 zeroR).below hb1))
      | (go_at_call 117; refine (bad_any _ 1).mono ?_; rintro e w3 ⟨rfl, hb3⟩; unfold resV; have HK := Lib.hid (HK.out.below hb3); obtain ⟨x0, x1, x2, f0, f1, f2⟩ := three HK.out)
      | fail)
    obtain ⟨k1, k2, k3⟩ := put3 HK.out (.int .i64 1) (.slice none 0 0) (.int .i64 0)
    refine bodyPost_ret (results_tmp_cell_row rfl _ _ _ _ _ _ rfl k1 Tryz.underlying40 rfl (by kernel_rfl)) rfl ?_
    have h3 := k2 w (Nat.le_refl _) (hB1.trans (hb3.mono hB1.size))
    exact ⟨A1, c1, none, 0, rfl, (ho1.below hb3).put3 HK.out (by decide) (by decide) _ _ _, own_nil _ _, h3, h3⟩
set_option maxHeartbeats 2000000 in
set_option maxRecDepth 100000 in
/-- put anew -/
theorem refPut_is {w : World} {ps : List Pr} {k v : List Nat} {A A' A'' : Option Addr} {n c n' c' n'' c'' B B' B'' i : Nat} {p : Pr} (hn : n ≤ 100000) (hL : LimP ps) (hb : BytesP ps) (hbk : ∀ x ∈ k, x < 256) (h8 : n' ≤ 8) (h16 : n'' ≤ 16) (ei : Mp.place (Mp.keys ps) k = (i : Int)) (hp : ps[i]? = some p)
    (h : RdP w B A n ps) (h' : Rd w B' A' n' (bv k)) (h'' : Rd w B'' A'' n'' (bv v)) :
    Calls Tryz.prog 131 #[.slice A n c, .slice A' n' c', .slice A'' n'' c''] w (GotPR w w (ps.set i (p.1, v)) 0 p.2 (ps.length : Int)) := by
  obtain rfl := h.length
  obtain rfl := h''.length
  have hin : i < ps.length := by
    rcases Nat.lt_or_ge i ps.length with h' | h'
    · exact h'
    · rw [List.getElem?_eq_none h'] at hp; cases hp
  have H := Lib.hid h.fit
  have H' := Lib.hid h'.fit
  have H'' := Lib.hid h''.fit
  have HL := Lib.hid hL
  have HB := Lib.hid hb
  have HBK := Lib.hid hbk
  have HE := Lib.hid ei
  have HP := Lib.hid hp
  have h8i : ¬ (8 : Int) < (n' : Int) := by omega
  have h16i : ¬ (16 : Int) < (v.length : Int) := by omega
  have h0 : (0 : Int) ≤ (i : Int) := by omega
  have h1 : (i : Int) < (ps.length : Int) := by omega
  have b0 : Below w.heap.size w (w.alloc (.cells zeroR 40)) := (Below.refl _ _).alloc (Nat.le_refl _) _
  clear h h' h'' hL hb hbk ei hp
  go_enter Tryz.func131, Tryz.ntmps131
  go_wp2_with fail
  refine (refPairs_any (W := w) hn HL.out (H.out.below b0) b0).mono ?_
  rintro e w1 ⟨A1, c1, rfl, ⟨vs, hrow, hown⟩, hB1, hb1⟩
  have HK := Lib.hid ((Blk.new w 40 zeroR).below hb1)
  go_wp2_with fail
  refine (refKey_bel _ (k := k) hn HB.out HBK.out (H.out.below hB1) (H'.out.below hB1)).mono ?_
  rintro e w2 ⟨rfl, hb2⟩
  rw [HE.out]
  have hrow2 := ownsRow_below hrow hb2
  have hown2 := hown.below hb2
  obtain ⟨A2, c2, hcv, hov⟩ := hown2.cell (i * 2 + 1) p.2 (by rw [flat_val, HP.out]; rfl)
  obtain ⟨g, rfl, hg1, hg2⟩ := own_addrS hrow2 (by omega)
  have hcell := (hrow2.cellAt (i * 2 + 1) (by omega)).trans hcv
  have HROW := Lib.hid hrow2
  have HOWN := Lib.hid hown2
  have HB2 := Lib.hid (hB1.trans (hb2.mono hB1.size))
  have HOV := Lib.hid hov
  have HK := Lib.hid (HK.out.below hb2)
  have HCV := Lib.hid hcv
  clear hrow hown hB1 hb1 hov hcv hrow2 hown2 hb2 hg1 hg2
  go_upto_region 7 with fail
  clear hcell
  go_wp2_with fail
  refine (ownref_any (W := w) (by unfold Lim; omega) (H''.out.below HB2.out) HB2.out).mono ?_
  rintro e w3 ⟨A3, c3, rfl, ho3, hB3, hb3⟩
  have hrow3 := ownsRow_below HROW.out hb3
  have hf := own_frozenS hrow3 (i * 2 + 1)
  have hcl := (hrow3.cellAt (i * 2 + 1) (by omega)).trans HCV.out
  obtain ⟨cur, hbk⟩ : ∃ cur, Blk w3 g 86 cur := by
    rcases own_blk hrow3 with ⟨q1, _⟩ | ⟨g', cur, q1, _, q2⟩
    · cases q1
    · injection q1 with q1; injection q1 with q1; subst q1; exact ⟨cur, q2⟩
  have hg1 : w.heap.size ≤ g := by
    obtain ⟨g', q1, q2, _⟩ := own_addrS hrow3 (by omega)
    injection q1 with q1; injection q1 with q1; omega
  have HK3 := HK.out.below hb3
  have HK4 := Lib.hid (HK3.set_other (i := i * 2 + 1) (u := .slice A3 v.length c3) (HK3.apart hbk (by decide)))
  obtain ⟨x0, x1, x2, f0, f1, f2⟩ := three HK4.out
  have HO4 : Hid (OwnP w (w3.setCell ⟨g, i * 2 + 1, none⟩ (.slice A3 v.length c3)) (some ⟨g, 0, none⟩) ps.length c1 (ps.set i (p.1, v))) := Lib.hid
    ⟨vs.set (i * 2 + 1) (.slice A3 v.length c3), (hrow3.stored _ _).1, by rw [flat_setval HP.out rfl]; exact ((HOWN.out.below hb3).set_t hbk (by decide)).set (own_set_t ho3 hbk (by decide)) _⟩
  have HV4 := Lib.hid (own_set_t (i := i * 2 + 1) (u := .slice A3 v.length c3) (own_below HOV.out hb3) hbk (by decide))
  have HB4 := Lib.hid (hB3.setCell (p := ⟨g, i * 2 + 1, none⟩) hg1 (.slice A3 v.length c3))
  clear hrow3 ho3 hB3 hb3 hbk hg1 HK3
  go_wp2_with fail
  obtain ⟨k1, k2, k3⟩ := put3 HK4.out (.int .i64 0) (.slice A2 p.2.length c2) (.int .i64 (ps.length : Int))
  refine bodyPost_ret (results_tmp_cell_row rfl _ _ _ _ _ _ rfl k1 Tryz.underlying40 rfl (by kernel_rfl)) rfl ?_
  have h3 := k2 w (Nat.le_refl _) HB4.out
  have hel : (ps.set i (p.1, v)).length = ps.length := by simp
  exact ⟨some ⟨g, 0, none⟩, c1, A2, c2, by rw [hel]; rfl, by rw [hel]; exact HO4.out.put3 HK4.out (by decide) (by decide) _ _ _, k3 _ _ _ _ _ _ HV4.out (by decide), h3, h3⟩
/-- refused: full -/
theorem refPut_full {w : World} {ps : List Pr} {k v : List Nat} {A A' A'' : Option Addr} {n c n' c' n'' c'' B B' B'' : Nat} (hn : n ≤ 100000) (hL : LimP ps) (hb : BytesP ps) (hbk : ∀ x ∈ k, x < 256) (h8 : n' ≤ 8) (h16 : n'' ≤ 16) (ei : Mp.place (Mp.keys ps) k = -1) (hf : 8 ≤ n)
    (h : RdP w B A n ps) (h' : Rd w B' A' n' (bv k)) (h'' : Rd w B'' A'' n'' (bv v)) :
    Calls Tryz.prog 131 #[.slice A n c, .slice A' n' c', .slice A'' n'' c''] w (GotPR w w ps 3 [] 0) := by
  obtain rfl := h.length
  have H := Lib.hid h.fit
  have H' := Lib.hid h'.fit
  have HL := Lib.hid hL
  have HB := Lib.hid hb
  have HBK := Lib.hid hbk
  have HE := Lib.hid ei
  have h8i : ¬ (8 : Int) < (n' : Int) := by omega
  have h16i : ¬ (16 : Int) < (n'' : Int) := by omega
  have hfi : (8 : Int) ≤ (ps.length : Int) := by omega
  have b0 : Below w.heap.size w (w.alloc (.cells zeroR 40)) := (Below.refl _ _).alloc (Nat.le_refl _) _
  clear h h' h'' hL hb hbk ei
  go_enter Tryz.func131, Tryz.ntmps131
  go_wp2_with (first
    | (go_at_call 122; refine (refPairs_any (W := w) hn HL.out (H.out.below b0) b0).mono ?_; rintro e w1 ⟨A1, c1, rfl, ho1, hB1, hb1⟩; have HK := Lib.hid ((Blk.new w 40 zeroR).below hb1))
    | (go_at_call 157; refine (refKey_bel _ (k := k) hn HB.out HBK.out (H.out.below hB1) (H'.out.below hB1)).mono ?_; rintro e w2 ⟨rfl, hb2⟩; rw [HE.out])
    | (go_at_call 117; refine (bad_any _ 3).mono ?_; rintro e w3 ⟨rfl, hb3⟩; unfold resV; have HK := Lib.hid ((HK.out.below hb2).below hb3); obtain ⟨x0, x1, x2, f0, f1, f2⟩ := three HK.out)
    | fail)
  obtain ⟨k1, k2, k3⟩ := put3 HK.out (.int .i64 3) (.slice none 0 0) (.int .i64 0)
  refine bodyPost_ret (results_tmp_cell_row rfl _ _ _ _ _ _ rfl k1 Tryz.underlying40 rfl (by kernel_rfl)) rfl ?_
  have hB2 := hB1.trans (hb2.mono hB1.size)
  have h3 := k2 w (Nat.le_refl _) (hB2.trans (hb3.mono hB2.size))
  exact ⟨A1, c1, none, 0, rfl, ((ho1.below hb2).below hb3).put3 HK.out (by decide) (by decide) _ _ _, own_nil _ _, h3, h3⟩
end Go.Proofs.YthfnnieklkaefaaGreat

