/- MesgMath MesgMath2 AppKit -/
import Derived.Test.YtlfkgpllleogoaaMT11
import Derived.Test.YtlfkgpllleogoaaMT12
namespace Go.Proofs.Ytlfkgpllleogoaa
open Go.RowKit
set_option linter.unusedVariables false
/-- a message -/
structure Mg where
  kind : Int
  frm : Int
  dst : Int
  view : Int
  inst : Int
  len : Int
  has : Bool
  mem : Int
  src : Int
  pos : Int
  tot : Int
  data : List Nat
  hop : Int
  seq : Int
  hav : List Int
  nee : List Int
  idx : Int
  ent : En
def Mg.zero : Mg := ⟨0, 0, 0, 0, 0, 0, false, 0, 0, 0, 0, [], 0, 0, [], [], 0, En.zero⟩
theorem Mg.eq_iff (a b : Mg) : a = b ↔ a.kind = b.kind ∧ a.frm = b.frm ∧ a.dst = b.dst ∧ a.view = b.view ∧ a.inst = b.inst ∧ a.len = b.len ∧ a.has = b.has ∧ a.mem = b.mem ∧ a.src = b.src ∧ a.pos = b.pos ∧ a.tot = b.tot ∧ a.data = b.data ∧ a.hop = b.hop ∧ a.seq = b.seq ∧ a.hav = b.hav ∧ a.nee = b.nee ∧ a.idx = b.idx ∧ a.ent = b.ent := by
  constructor
  · rintro rfl; exact ⟨rfl, rfl, rfl, rfl, rfl, rfl, rfl, rfl, rfl, rfl, rfl, rfl, rfl, rfl, rfl, rfl, rfl, rfl⟩
  · rintro ⟨h1, h2, h3, h4, h5, h6, h7, h8, h9, h10, h11, h12, h13, h14, h15, h16, h17, h18⟩; cases a; cases b; simp at h1 h2 h3 h4 h5 h6 h7 h8 h9 h10 h11 h12 h13 h14 h15 h16 h17 h18; subst h1 h2 h3 h4 h5 h6 h7 h8 h9 h10 h11 h12 h13 h14 h15 h16 h17 h18; rfl
instance : DecidableEq Mg := fun a b => decidable_of_iff _ (Mg.eq_iff a b).symm
/-- 0 to m -/
def wi (m z : Int) : Bool := decide (0 ≤ z) && decide (z ≤ m)
theorem wi_iff {m z : Int} : wi m z = true ↔ 0 ≤ z ∧ z ≤ m := by unfold wi; simp
def wis (k : Nat) (l : List Int) : Bool := decide (l.length ≤ k) && l.all (wi 1099511627776)
/-- an entry that may be told -/
def En.ok (e : En) : Bool := wi 1073741824 e.s && (wi 1073741824 e.q && (wi 1073741824 e.c.kind && (wi 1073741824 e.c.who && (decide (e.c.key.length ≤ 32) && (decide (e.c.val.length ≤ 32) && decide (e.c.old.length ≤ 32))))))
def Mg.headOk (m : Mg) : Bool := wi 6 m.frm && (wi 6 m.dst && wi 1099511627776 m.view)
def Mg.tailOk (m : Mg) : Bool :=
  if m.kind = 2 then wi 1099511627776 m.inst && wi 1099511627776 m.len
  else if m.kind = 3 then wi 127 m.mem && (wi 6 m.src && wi 1099511627776 m.len)
  else if m.kind = 4 then wi 1099511627776 m.pos
  else if m.kind = 5 then wi 1099511627776 m.pos && (wi 1099511627776 m.tot && decide (m.data.length ≤ 64))
  else if m.kind = 7 then wi 1099511627776 m.hop && (wi 1099511627776 m.seq && (wis 7 m.hav && wis 8 m.nee))
  else if m.kind = 8 then wi 1099511627776 m.idx && m.ent.ok
  else decide (m.kind = 1) || decide (m.kind = 6)
def Mg.ok (m : Mg) : Bool := m.headOk && m.tailOk
def eI (z : Int) : List Nat := Pk.enc (Pk.held z)
def Mg.has01 (m : Mg) : Int := if m.has then 1 else 0
def Mg.head (m : Mg) : List Nat := eI m.kind ++ (eI m.frm ++ (eI m.dst ++ eI m.view))
def Mg.tail (m : Mg) : List Nat :=
  if m.kind = 2 then eI m.inst ++ (eI m.len ++ eI m.has01)
  else if m.kind = 3 then eI m.mem ++ (eI m.src ++ eI m.len)
  else if m.kind = 4 then eI m.pos
  else if m.kind = 5 then eI m.pos ++ (eI m.tot ++ Pk.encB m.data)
  else if m.kind = 7 then eI m.hop ++ (eI m.seq ++ (encN m.hav.length ++ (Pk.encs m.hav ++ (encN m.nee.length ++ Pk.encs m.nee))))
  else if m.kind = 8 then eI m.idx ++ m.ent.enc
  else []
/-- its bytes -/
def Mg.enc (m : Mg) : List Nat := if m.ok = true then m.head ++ m.tail else []
/-- the fields that its kind names -/
def Mg.bare (m : Mg) : Mg :=
  let z := { Mg.zero with kind := m.kind, frm := m.frm, dst := m.dst, view := m.view }
  if m.kind = 2 then { z with inst := m.inst, len := m.len, has := m.has }
  else if m.kind = 3 then { z with mem := m.mem, src := m.src, len := m.len }
  else if m.kind = 4 then { z with pos := m.pos }
  else if m.kind = 5 then { z with pos := m.pos, tot := m.tot, data := m.data }
  else if m.kind = 7 then { z with hop := m.hop, seq := m.seq, hav := m.hav, nee := m.nee }
  else if m.kind = 8 then { z with idx := m.idx, ent := m.ent }
  else z
/-- numbers that are read -/
def getF : Nat → Pk.St → List Int × Pk.St
  | 0, s => ([], s)
  | k + 1, s => ((Pk.numV s 1099511627776 : Int) :: (getF k (Pk.numS s 1099511627776)).1, (getF k (Pk.numS s 1099511627776)).2)
def stF (m : Int) (s : Pk.St) : List Int × Pk.St := getF (Pk.numV s m) (Pk.numS s m)
/-- the state behind the head -/
def s4 (s : Pk.St) : Pk.St := Pk.numS (Pk.numS (Pk.numS (Pk.numS s 8) 6) 6) 1099511627776
def hd (s : Pk.St) : Mg := { Mg.zero with kind := (Pk.numV s 8 : Int), frm := (Pk.numV (Pk.numS s 8) 6 : Int), dst := (Pk.numV (Pk.numS (Pk.numS s 8) 6) 6 : Int), view := (Pk.numV (Pk.numS (Pk.numS (Pk.numS s 8) 6) 6) 1099511627776 : Int) }
def Mg.get (s : Pk.St) : Mg × Pk.St :=
  if Pk.numV s 8 = 2 then ({ hd s with inst := (Pk.numV (s4 s) 1099511627776 : Int), len := (Pk.numV (Pk.numS (s4 s) 1099511627776) 1099511627776 : Int), has := decide (Pk.numV (Pk.numS (Pk.numS (s4 s) 1099511627776) 1099511627776) 1 = 1) }, Pk.numS (Pk.numS (Pk.numS (s4 s) 1099511627776) 1099511627776) 1)
  else if Pk.numV s 8 = 3 then ({ hd s with mem := (Pk.numV (s4 s) 127 : Int), src := (Pk.numV (Pk.numS (s4 s) 127) 6 : Int), len := (Pk.numV (Pk.numS (Pk.numS (s4 s) 127) 6) 1099511627776 : Int) }, Pk.numS (Pk.numS (Pk.numS (s4 s) 127) 6) 1099511627776)
  else if Pk.numV s 8 = 4 then ({ hd s with pos := (Pk.numV (s4 s) 1099511627776 : Int) }, Pk.numS (s4 s) 1099511627776)
  else if Pk.numV s 8 = 5 then ({ hd s with pos := (Pk.numV (s4 s) 1099511627776 : Int), tot := (Pk.numV (Pk.numS (s4 s) 1099511627776) 1099511627776 : Int), data := Pk.bytV (Pk.numS (Pk.numS (s4 s) 1099511627776) 1099511627776) 64 }, Pk.bytS (Pk.numS (Pk.numS (s4 s) 1099511627776) 1099511627776) 64)
  else if Pk.numV s 8 = 7 then ({ hd s with hop := (Pk.numV (s4 s) 1099511627776 : Int), seq := (Pk.numV (Pk.numS (s4 s) 1099511627776) 1099511627776 : Int), hav := (stF 7 (Pk.numS (Pk.numS (s4 s) 1099511627776) 1099511627776)).1, nee := (stF 8 (stF 7 (Pk.numS (Pk.numS (s4 s) 1099511627776) 1099511627776)).2).1 }, (stF 8 (stF 7 (Pk.numS (Pk.numS (s4 s) 1099511627776) 1099511627776)).2).2)
  else if Pk.numV s 8 = 8 then ({ hd s with idx := (Pk.numV (s4 s) 1099511627776 : Int), ent := En.read (Pk.numS (s4 s) 1099511627776) }, (En.get (Pk.numS (s4 s) 1099511627776)).2)
  else (hd s, s4 s)
/-- the message of bytes, or none -/
def Mg.dec (l : List Nat) : Option Mg := if (Mg.get (some l)).1.kind ≠ 0 ∧ (Mg.get (some l)).2 = some [] then some (Mg.get (some l)).1 else none
theorem Mg.get_kind (s : Pk.St) : (Mg.get s).1.kind = (Pk.numV s 8 : Int) := by
  unfold Mg.get
  split; rfl
  split; rfl
  split; rfl
  split; rfl
  split; rfl
  split; rfl
  rfl
-- back
theorem rd1 {z m : Int} {rest : List Nat} (h : wi m z = true) (ht : m ≤ 4611686018427387904) : (Pk.numV (some (eI z ++ rest)) m : Int) = z ∧ Pk.numS (some (eI z ++ rest)) m = some rest :=
  num_of_encI (wi_iff.1 h).1 (wi_iff.1 h).2 ht
theorem En.get_enc {e : En} (h : e.ok = true) (rest : List Nat) : En.get (some (e.enc ++ rest)) = (e, some rest) := by
  unfold En.ok at h
  simp only [Bool.and_eq_true, decide_eq_true_eq] at h
  obtain ⟨h1, h2, h3, h4, h5, h6, h7⟩ := h
  have e0 : e.enc ++ rest = eI e.s ++ (eI e.q ++ (eI e.c.kind ++ (eI e.c.who ++ (Pk.encB e.c.key ++ (Pk.encB e.c.val ++ (Pk.encB e.c.old ++ rest)))))) := by
    unfold En.enc eI; simp only [List.append_assoc]
  have k1 := rd1 (rest := eI e.q ++ (eI e.c.kind ++ (eI e.c.who ++ (Pk.encB e.c.key ++ (Pk.encB e.c.val ++ (Pk.encB e.c.old ++ rest)))))) h1 (by omega)
  have k2 := rd1 (rest := eI e.c.kind ++ (eI e.c.who ++ (Pk.encB e.c.key ++ (Pk.encB e.c.val ++ (Pk.encB e.c.old ++ rest))))) h2 (by omega)
  have k3 := rd1 (rest := eI e.c.who ++ (Pk.encB e.c.key ++ (Pk.encB e.c.val ++ (Pk.encB e.c.old ++ rest)))) h3 (by omega)
  have k4 := rd1 (rest := Pk.encB e.c.key ++ (Pk.encB e.c.val ++ (Pk.encB e.c.old ++ rest))) h4 (by omega)
  have k5 := byt_of_enc (x := e.c.key) (m := 32) (rest := Pk.encB e.c.val ++ (Pk.encB e.c.old ++ rest)) (by omega) (by omega)
  have k6 := byt_of_enc (x := e.c.val) (m := 32) (rest := Pk.encB e.c.old ++ rest) (by omega) (by omega)
  have k7 := byt_of_enc (x := e.c.old) (m := 32) (rest := rest) (by omega) (by omega)
  rw [e0]
  unfold En.get
  simp only []
  rw [k1.1, k1.2, k2.1, k2.2, k3.1, k3.2, k4.1, k4.2, k5.1, k5.2, k6.1, k6.2, k7.1, k7.2]
theorem En.read_enc {e : En} (h : e.ok = true) (rest : List Nat) : En.read (some (e.enc ++ rest)) = e := by
  unfold En.read
  rw [En.get_enc h]
  simp
theorem Mg.ok_kind {m : Mg} (h : m.ok = true) : m.kind ≠ 0 := by
  intro h0
  unfold Mg.ok Mg.tailOk at h
  simp [h0] at h
end Go.Proofs.Ytlfkgpllleogoaa

namespace Go.Proofs.Ytlfkgpllleogoaa
open Go.RowKit
set_option linter.unusedVariables false
theorem encF_small (f : Nat) {x : Nat} (h : x < 128) : Pk.encF f x = [x] := by
  cases f with
  | zero => rfl
  | succ f => unfold Pk.encF; rw [if_pos h]
theorem encF_big (f : Nat) {n : Nat} (h : 128 ≤ n) : Pk.encF (f + 1) n = (n % 128 + 128) :: Pk.encF f (n / 128) := by
  show (if n < 128 then [n] else (n % 128 + 128) :: Pk.encF f (n / 128)) = _
  rw [if_neg (by omega)]
theorem dec_canon : ∀ (l : List Nat) (i acc : Nat), (∀ x ∈ l, x < 256) → (Pk.dec i acc l).2 ≠ 0 →
    ∃ n, Pk.dec i acc l = (acc + n * 128 ^ i, i + (Pk.encF (8 - i) n).length) ∧ l = Pk.encF (8 - i) n ++ l.drop (Pk.encF (8 - i) n).length ∧ (0 < i → 0 < n)
  | [], i, acc, _, h => by simp [Pk.dec] at h
  | x :: l, i, acc, hb, h => by
    unfold Pk.dec at h ⊢
    by_cases h9 : 9 ≤ i
    · simp [h9] at h
    rw [if_neg h9] at h ⊢
    by_cases hx : 128 ≤ x
    · rw [if_pos hx] at h ⊢
      obtain ⟨n, e1, e2, e3⟩ := dec_canon l (i + 1) (acc + x % 128 * 128 ^ i) (fun y hy => hb y (List.mem_cons_of_mem _ hy)) h
      have hx2 := hb x (by simp)
      have hn := e3 (by omega)
      by_cases h8 : i = 8
      · subst h8
        exfalso
        cases l with
        | nil => simp [Pk.dec] at h
        | cons y l => unfold Pk.dec at h; simp at h
      obtain ⟨f, hf⟩ : ∃ f, 8 - i = f + 1 := ⟨7 - i, by omega⟩
      have hf' : 8 - (i + 1) = f := by omega
      rw [hf'] at e1 e2
      have hN : 128 ≤ x % 128 + 128 * n := by omega
      have e4 : Pk.encF (8 - i) (x % 128 + 128 * n) = x :: Pk.encF f n := by
        rw [hf, encF_big f hN, show (x % 128 + 128 * n) % 128 + 128 = x by omega, show (x % 128 + 128 * n) / 128 = n by omega]
      refine ⟨x % 128 + 128 * n, ?_, ?_, fun _ => by omega⟩
      · rw [e1, e4, Nat.pow_succ, List.length_cons]
        congr 1
        · rw [Nat.add_mul, Nat.mul_comm 128 n, Nat.mul_assoc n 128, Nat.mul_comm 128 (128 ^ i)]; omega
        · omega
      · rw [e4]
        simp only [List.length_cons, List.drop_succ_cons, List.cons_append]
        rw [← e2]
    · rw [if_neg hx] at h ⊢
      by_cases h0 : x = 0 ∧ 0 < i
      · rw [if_pos h0] at h; simp at h
      rw [if_neg h0]
      refine ⟨x, ?_, ?_, fun hi => by omega⟩
      · rw [encF_small _ (by omega)]; rfl
      · rw [encF_small _ (by omega)]; rfl
theorem first_canon {l : List Nat} (hb : ∀ x ∈ l, x < 256) (h : (Pk.first l).2 ≠ 0) : l = Pk.enc (Pk.first l).1 ++ l.drop (Pk.first l).2 := by
  obtain ⟨n, e1, e2, _⟩ := dec_canon l 0 0 hb h
  have e1 : Pk.first l = (n, (Pk.enc n).length) := by
    show Pk.dec 0 0 l = _
    rw [e1]
    simp [Pk.enc]
  rw [e1]
  exact e2
theorem num_canon {s : Pk.St} {m : Int} {l' : List Nat} (hb : BytesSt s) (h : Pk.numS s m = some l') (h0 : 0 ≤ m) (hm : m ≤ 4611686018427387904) :
    s = some (eI (Pk.numV s m : Int) ++ l') ∧ wi m (Pk.numV s m : Int) = true := by
  have hle := numV_le s h0
  refine ⟨?_, wi_iff.2 ⟨by omega, hle⟩⟩
  rcases numN_cases s m with h1 | ⟨l, e, h1, h2, h3⟩
  · rw [h1.2] at h; cases h
  · rw [h3] at h
    injection h with h
    unfold eI
    rw [Pk.held_of (by unfold Pk.top; omega), h1, ← h, e]
    congr 1
    refine first_canon (hb l e) fun hz => ?_
    have hn : Pk.numS s m = none := by
      rw [e]; unfold Pk.numS Pk.numN Pk.rNum; simp [hz]
    rw [hn] at h3; cases h3
theorem num_bytes {s : Pk.St} {m : Int} (hb : BytesSt s) : BytesSt (Pk.numS s m) := numS_bytes hb m
theorem byt_canon {s : Pk.St} {m : Int} {l' : List Nat} (hb : BytesSt s) (h : Pk.bytS s m = some l') (h0 : 0 ≤ m) (hm : m ≤ 1000) :
    s = some (Pk.encB (Pk.bytV s m) ++ l') ∧ ((Pk.bytV s m).length : Int) ≤ m := by
  refine ⟨?_, (bytV_facts hb h0).1⟩
  by_cases hl : ((Pk.numS s m).getD []).length < Pk.numV s m
  · rw [(Pk.byt_no hl).2] at h; cases h
  · obtain ⟨e1, e2⟩ := Pk.byt_of hl
    rw [e2] at h
    cases hs : Pk.numS s m with
    | none => rw [hs] at h; cases h
    | some r =>
      rw [hs] at h e1 hl
      obtain ⟨k1, k2⟩ := num_canon hb hs h0 (by omega)
      simp only [Option.map_some] at h
      injection h with h
      simp only [Option.getD_some] at e1 hl
      have hlen : (Pk.bytV s m).length = Pk.numV s m := by rw [e1, List.length_take]; omega
      unfold eI at k1
      have hle := numV_le s h0
      rw [Pk.held_of (by unfold Pk.top; omega)] at k1
      conv => lhs; rw [k1]
      unfold Pk.encB
      rw [hlen, e1, List.append_assoc, ← h, List.take_append_drop]
theorem getF_canon : ∀ (k : Nat) {s : Pk.St} {l' : List Nat}, BytesSt s → (getF k s).2 = some l' → s = some (Pk.encs (getF k s).1 ++ l') ∧ (getF k s).1.all (wi 1099511627776) = true ∧ (getF k s).1.length = k
  | 0, s, l', hb, h => ⟨h, rfl, rfl⟩
  | k + 1, s, l', hb, h => by
    obtain ⟨e1, e2, e3⟩ := getF_canon k (num_bytes (m := 1099511627776) hb) h
    obtain ⟨k1, k2⟩ := num_canon hb e1 (by omega) (by omega)
    refine ⟨?_, ?_, by simp only [getF, List.length_cons, e3]⟩
    · conv => lhs; rw [k1]
      simp only [getF, Pk.encs, List.append_assoc]
      rfl
    · simp only [getF, List.all_cons, Bool.and_eq_true]
      exact ⟨k2, e2⟩
theorem getF_bytes : ∀ (k : Nat) {s : Pk.St}, BytesSt s → BytesSt (getF k s).2
  | 0, s, hb => hb
  | k + 1, s, hb => getF_bytes k (num_bytes (m := 1099511627776) hb)
theorem stF_canon {k : Nat} {s : Pk.St} {l' : List Nat} (hb : BytesSt s) (hk : k ≤ 100) (h : (stF (k : Int) s).2 = some l') : s = some (encN (stF (k : Int) s).1.length ++ (Pk.encs (stF (k : Int) s).1 ++ l')) ∧ wis k (stF (k : Int) s).1 = true := by
  unfold stF at h ⊢
  obtain ⟨e1, e2, e3⟩ := getF_canon _ (num_bytes (m := (k : Int)) hb) h
  obtain ⟨k1, k2⟩ := num_canon hb e1 (by omega) (by omega)
  rw [wi_iff] at k2
  refine ⟨?_, ?_⟩
  · rw [e3]; exact k1
  · unfold wis
    rw [e2, e3, Bool.and_true, decide_eq_true_eq]
    omega
theorem stF_bytes {m : Int} {s : Pk.St} (hb : BytesSt s) : BytesSt (stF m s).2 := getF_bytes _ (num_bytes (m := m) hb)
theorem En.get_canon {s : Pk.St} {l' : List Nat} (hb : BytesSt s) (h : (En.get s).2 = some l') : s = some ((En.get s).1.enc ++ l') ∧ (En.get s).1.ok = true := by
  unfold En.get at h ⊢
  simp only [] at h ⊢
  have b1 := num_bytes (m := 1073741824) hb
  have b2 := num_bytes (m := 1073741824) b1
  have b3 := num_bytes (m := 1073741824) b2
  have b4 := num_bytes (m := 1073741824) b3
  have b5 := (bytV_facts b4 (m := 32) (by omega)).2.2
  have b6 := (bytV_facts b5 (m := 32) (by omega)).2.2
  obtain ⟨e7, o7⟩ := byt_canon b6 h (by omega) (by omega)
  obtain ⟨e6, o6⟩ := byt_canon b5 e7 (by omega) (by omega)
  obtain ⟨e5, o5⟩ := byt_canon b4 e6 (by omega) (by omega)
  obtain ⟨e4, o4⟩ := num_canon b3 e5 (by omega) (by omega)
  obtain ⟨e3, o3⟩ := num_canon b2 e4 (by omega) (by omega)
  obtain ⟨e2, o2⟩ := num_canon b1 e3 (by omega) (by omega)
  obtain ⟨e1, o1⟩ := num_canon hb e2 (by omega) (by omega)
  refine ⟨?_, ?_⟩
  · conv => lhs; rw [e1]
    unfold En.enc eI
    simp only [List.append_assoc]
  · unfold En.ok
    simp only [Bool.and_eq_true, decide_eq_true_eq]
    exact ⟨o1, o2, o3, o4, by omega, by omega, by omega⟩
theorem s4_bytes {s : Pk.St} (hb : BytesSt s) : BytesSt (s4 s) := num_bytes (num_bytes (num_bytes (num_bytes hb)))
/-- what is read of the head -/
theorem s4_canon {s : Pk.St} {l' : List Nat} (hb : BytesSt s) (h : s4 s = some l') : s = some ((hd s).head ++ l') ∧ (hd s).headOk = true ∧ wi 8 (hd s).kind = true := by
  unfold s4 at h
  have b1 := num_bytes (m := 8) hb
  have b2 := num_bytes (m := 6) b1
  have b3 := num_bytes (m := 6) b2
  obtain ⟨e4, o4⟩ := num_canon b3 h (by omega) (by omega)
  obtain ⟨e3, o3⟩ := num_canon b2 e4 (by omega) (by omega)
  obtain ⟨e2, o2⟩ := num_canon b1 e3 (by omega) (by omega)
  obtain ⟨e1, o1⟩ := num_canon hb e2 (by omega) (by omega)
  refine ⟨?_, ?_, o1⟩
  · conv => lhs; rw [e1]
    unfold Mg.head hd
    simp only [List.append_assoc]
  · unfold Mg.headOk hd
    simp only [Bool.and_eq_true]
    exact ⟨o2, o3, o4⟩
theorem hd_kind (s : Pk.St) : (hd s).kind = (Pk.numV s 8 : Int) := rfl
theorem Mg.get_canon {s : Pk.St} {l' : List Nat} (hb : BytesSt s) (h : (Mg.get s).2 = some l') (hk : (Mg.get s).1.kind ≠ 0) :
    s = some ((Mg.get s).1.head ++ ((Mg.get s).1.tail ++ l')) ∧ (Mg.get s).1.ok = true ∧ (Mg.get s).1.bare = (Mg.get s).1 := by
  rw [Mg.get_kind] at hk
  have b4 := s4_bytes hb
  have b5 := num_bytes (m := 1099511627776) b4
  have b6 := num_bytes (m := 1099511627776) b5
  unfold Mg.get at h ⊢
  by_cases c2 : Pk.numV s 8 = 2
  · rw [if_pos c2] at h ⊢
    obtain ⟨e3, o3⟩ := num_canon b6 h (by omega) (by omega)
    obtain ⟨e2, o2⟩ := num_canon b5 e3 (by omega) (by omega)
    obtain ⟨e1, o1⟩ := num_canon b4 e2 (by omega) (by omega)
    obtain ⟨e0, o0, oz⟩ := s4_canon hb e1
    have hkk : (hd s).kind = 2 := by rw [hd_kind, c2]; rfl
    have hz : (if decide (Pk.numV (Pk.numS (Pk.numS (s4 s) 1099511627776) 1099511627776) 1 = 1) then (1 : Int) else 0) = (Pk.numV (Pk.numS (Pk.numS (s4 s) 1099511627776) 1099511627776) 1 : Int) := by
      rw [wi_iff] at o3
      split
      · rename_i q; simp at q; omega
      · rename_i q; simp at q; omega
    refine ⟨?_, ?_, ?_⟩
    · conv => lhs; rw [e0]
      unfold Mg.tail Mg.head
      simp only [hkk, if_true, List.append_assoc]
      unfold Mg.has01
      simp only []
      rw [hz]
    · unfold Mg.ok Mg.tailOk
      simp only [hkk, if_true, Bool.and_eq_true]
      exact ⟨o0, o1, o2⟩
    · unfold Mg.bare; simp only [hkk, if_true]; rfl
  rw [if_neg c2] at h ⊢
  by_cases c3 : Pk.numV s 8 = 3
  · rw [if_pos c3] at h ⊢
    have b5 := num_bytes (m := 127) b4
    have b6 := num_bytes (m := 6) b5
    obtain ⟨e3, o3⟩ := num_canon b6 h (by omega) (by omega)
    obtain ⟨e2, o2⟩ := num_canon b5 e3 (by omega) (by omega)
    obtain ⟨e1, o1⟩ := num_canon b4 e2 (by omega) (by omega)
    obtain ⟨e0, o0, oz⟩ := s4_canon hb e1
    have hkk : (hd s).kind = 3 := by rw [hd_kind, c3]; rfl
    refine ⟨?_, ?_, ?_⟩
    · conv => lhs; rw [e0]
      unfold Mg.tail Mg.head
      simp [hkk, List.append_assoc]
    · unfold Mg.ok Mg.tailOk
      simp [hkk]
      exact ⟨o0, o1, o2, o3⟩
    · unfold Mg.bare; simp [hkk]; simp [hd]
  rw [if_neg c3] at h ⊢
  by_cases c4 : Pk.numV s 8 = 4
  · rw [if_pos c4] at h ⊢
    obtain ⟨e1, o1⟩ := num_canon b4 h (by omega) (by omega)
    obtain ⟨e0, o0, oz⟩ := s4_canon hb e1
    have hkk : (hd s).kind = 4 := by rw [hd_kind, c4]; rfl
    refine ⟨?_, ?_, ?_⟩
    · conv => lhs; rw [e0]
      unfold Mg.tail Mg.head
      simp [hkk, List.append_assoc]
    · unfold Mg.ok Mg.tailOk
      simp [hkk]
      exact ⟨o0, o1⟩
    · unfold Mg.bare; simp [hkk]; simp [hd]
  rw [if_neg c4] at h ⊢
  by_cases c5 : Pk.numV s 8 = 5
  · rw [if_pos c5] at h ⊢
    obtain ⟨e3, o3⟩ := byt_canon b6 h (by omega) (by omega)
    obtain ⟨e2, o2⟩ := num_canon b5 e3 (by omega) (by omega)
    obtain ⟨e1, o1⟩ := num_canon b4 e2 (by omega) (by omega)
    obtain ⟨e0, o0, oz⟩ := s4_canon hb e1
    have hkk : (hd s).kind = 5 := by rw [hd_kind, c5]; rfl
    refine ⟨?_, ?_, ?_⟩
    · conv => lhs; rw [e0]
      unfold Mg.tail Mg.head
      simp [hkk, List.append_assoc]
    · unfold Mg.ok Mg.tailOk
      simp [hkk]
      exact ⟨o0, o1, o2, by omega⟩
    · unfold Mg.bare; simp [hkk]; simp [hd]
  rw [if_neg c5] at h ⊢
  by_cases c7 : Pk.numV s 8 = 7
  · rw [if_pos c7] at h ⊢
    obtain ⟨t, ht⟩ : ∃ t, Pk.numS (Pk.numS (s4 s) 1099511627776) 1099511627776 = t := ⟨_, rfl⟩
    rw [ht] at h b6 ⊢
    obtain ⟨e4, o4⟩ : _ ∧ wis 8 (stF 8 (stF 7 t).2).1 = true := stF_canon (k := 8) (stF_bytes (m := 7) b6) (by omega) h
    obtain ⟨e3, o3⟩ : _ ∧ wis 7 (stF 7 t).1 = true := stF_canon (k := 7) b6 (by omega) e4
    rw [← ht] at e3
    obtain ⟨e2, o2⟩ := num_canon b5 e3 (by omega) (by omega)
    obtain ⟨e1, o1⟩ := num_canon b4 e2 (by omega) (by omega)
    obtain ⟨e0, o0, oz⟩ := s4_canon hb e1
    have hkk : (hd s).kind = 7 := by rw [hd_kind, c7]; rfl
    refine ⟨?_, ?_, ?_⟩
    · conv => lhs; rw [e0]
      unfold Mg.tail Mg.head
      simp [hkk, List.append_assoc, ht]
    · unfold Mg.ok Mg.tailOk
      simp [hkk]
      exact ⟨o0, o1, o2, o3, o4⟩
    · unfold Mg.bare; simp [hkk]; simp [hd]
  rw [if_neg c7] at h ⊢
  by_cases c8 : Pk.numV s 8 = 8
  · rw [if_pos c8] at h ⊢
    have hre : En.read (Pk.numS (s4 s) 1099511627776) = (En.get (Pk.numS (s4 s) 1099511627776)).1 := by
      unfold En.read; rw [h]; simp
    obtain ⟨e2, o2⟩ := En.get_canon b5 h
    obtain ⟨e1, o1⟩ := num_canon b4 e2 (by omega) (by omega)
    obtain ⟨e0, o0, oz⟩ := s4_canon hb e1
    have hkk : (hd s).kind = 8 := by rw [hd_kind, c8]; rfl
    rw [hre]
    refine ⟨?_, ?_, ?_⟩
    · conv => lhs; rw [e0]
      unfold Mg.tail Mg.head
      simp [hkk, List.append_assoc]
    · unfold Mg.ok Mg.tailOk
      simp [hkk]
      exact ⟨o0, o1, o2⟩
    · unfold Mg.bare; simp [hkk]; simp [hd]
  rw [if_neg c8] at h ⊢
  obtain ⟨e0, o0, oz⟩ := s4_canon hb h
  rw [wi_iff, hd_kind] at oz
  have hkk : (hd s).kind = 1 ∨ (hd s).kind = 6 := by rw [hd_kind]; omega
  refine ⟨?_, ?_, ?_⟩
  · conv => lhs; rw [e0]
    unfold Mg.tail
    rcases hkk with hkk | hkk <;> simp [hkk]
  · unfold Mg.ok Mg.tailOk
    rcases hkk with hkk | hkk <;> simp [hkk, o0]
  · unfold Mg.bare
    rcases hkk with hkk | hkk <;> simp [hkk] <;> simp [hd] <;> rw [hd_kind] at hkk <;> omega
/-- bytes that are a message are its own -/
theorem Mg.dec_canon {l : List Nat} (hb : ∀ x ∈ l, x < 256) {m : Mg} (h : Mg.dec l = some m) : m.ok = true ∧ m.enc = l ∧ m.bare = m := by
  unfold Mg.dec at h
  split at h
  · rename_i hw
    injection h with h
    obtain ⟨e1, e2, e3⟩ := Mg.get_canon (s := some l) (fun l' hl' => by injection hl' with hl'; subst hl'; exact hb) hw.2 hw.1
    rw [h] at e1 e2 e3
    injection e1 with e1
    rw [List.append_nil] at e1
    refine ⟨e2, ?_, e3⟩
    unfold Mg.enc
    rw [if_pos e2, ← e1]
  · cases h
end Go.Proofs.Ytlfkgpllleogoaa

namespace Go.Proofs.Ytlfkgpllleogoaa
open Go.RowKit
set_option linter.unusedVariables false
section
variable {P : Program} {t e : TypeId} {z : Value} {bytes size : Nat} {w : World}
theorem wp_append_at (base : Nat) (hb0 : base ≤ w.heap.size) (hT : CellT P t e z bytes) {o : Oper} {a : Act} {next : Act → World → Prop} {Q : Exit → Act → World → Prop} (s x : Operand)
    (ho : o.op = .call { callee := .builtin .append, args := #[s, x], argTypes := #[t, t] })
    {A : Option Addr} {n c : Nat} {vs : List Value} (hs : a.eval s = .slice A n c) (hown : w.ownsRow base e 1 (.slice A n c) n vs)
    {B : Nat} {A' : Option Addr} {m c' : Nat} {ws : List Value} (hx : a.eval x = .slice A' m c') (hr : Rd w B A' m ws) (h1 : ∀ u ∈ ws, u.oneCell' = true) (hnm : n + m ≤ 1099511627776) (hby : bytes ≤ 64)
    (h : ∀ A2 c2 w2, w2.ownsRow base e 1 (.slice A2 (n + m) c2) (n + m) (vs ++ ws) → w.grownBy w2 (Value.slice A n c).ownBlock → next (a.put o.dst (.slice A2 (n + m) c2)) w2) : o.wp P a w next Q := by
  obtain ⟨i, hi, hz, hsz, hbi⟩ := info_parts hT.info
  obtain ⟨v', w', hrun, h2, h3, h4⟩ := run_append_rd (P := P) w base t o.type e i z bytes hT.under hi hz hsz hbi hT.one _ n vs hown B A' m c' ws hr h1
    (by unfold maxLen; omega) (by have := Nat.mul_le_mul hnm hby; omega) hb0
  obtain ⟨A2, c2, rfl, hr2⟩ := Rd.of_own h2
  have hgo := h A2 c2 w' h2 h3
  unfold Oper.wp execOp
  simp only [ho, resolve, invoke, builtin, Sem.run_bind, Sem.run_pure, Result.andThen_ok, List.map_toArray, List.map_cons, List.map_nil, hs, hx, hrun]
  exact hgo
theorem wpList_append_at (base : Nat) (hb0 : base ≤ w.heap.size) (hT : CellT P t e z bytes) {ops : Array Oper} {rest : List Oper} {o : Oper} {a : Act} {Q : Exit → Act → World → Prop} (s x : Operand)
    (ho : o.op = .call { callee := .builtin .append, args := #[s, x], argTypes := #[t, t] }) (hw : Region.wanted o (yielded ops a.tmps) = true)
    {A : Option Addr} {n c : Nat} {vs : List Value} (hs : a.eval s = .slice A n c) (hown : w.ownsRow base e 1 (.slice A n c) n vs)
    {B : Nat} {A' : Option Addr} {m c' : Nat} {ws : List Value} (hx : a.eval x = .slice A' m c') (hr : Rd w B A' m ws) (h1 : ∀ u ∈ ws, u.oneCell' = true) (hnm : n + m ≤ 1099511627776) (hby : bytes ≤ 64)
    (h : ∀ A2 c2 w2, w2.ownsRow base e 1 (.slice A2 (n + m) c2) (n + m) (vs ++ ws) → w.grownBy w2 (Value.slice A n c).ownBlock → wpList P ops Q rest (a.put o.dst (.slice A2 (n + m) c2)) w2) :
    wpList P ops Q (o :: rest) a w := by
  unfold wpList
  rw [if_pos hw]
  exact .inl (wp_append_at base hb0 hT s x ho hs hown hx hr h1 hnm hby h)
end
end Go.Proofs.Ytlfkgpllleogoaa

