/- MesgMath MachPut MachPut2 SameInts CrcWalks -/
import Derived.Test.YtlfkgpllleogoaaFQ01
import Derived.Test.YtlfkgpllleogoaaFQ03
import Derived.Test.YtlfkgpllleogoaaFQ07
import Derived.Test.YtlfkgpllleogoaaFQ10
import Derived.Deep.RegionHeld3
import Derived.Deep.RegionLaw
import Derived.BigQuiet
import Derived.Deep.QuietTactic
import Derived.IntWalk
import Derived.OwnWalk
import Derived.ProofKit
import Derived.Test.YtlfkgpllleogoaaRows
import Derived.WalkKit
import Derived.WalkLawsBesides
import Derived.WalkSmall
import Derived.WalkSpells
import Derived.Below
import Derived.Laws.BitsAllLaws
import Derived.Lib.Hide
import Derived.Outline
namespace Go.Proofs.Ytlfkgpllleogoaa
open Go.RowKit
set_option linter.unusedVariables false
/-- a message -/
structure Mg where
  kind : Int
  frm : Int
  dst : Int
  view : Int
  inst : Int
  len : Int
  has : Bool
  mem : Int
  src : Int
  pos : Int
  tot : Int
  data : List Nat
  hop : Int
  seq : Int
  hav : List Int
  nee : List Int
  idx : Int
  ent : En
def Mg.zero : Mg := ⟨0, 0, 0, 0, 0, 0, false, 0, 0, 0, 0, [], 0, 0, [], [], 0, En.zero⟩
theorem Mg.eq_iff (a b : Mg) : a = b ↔ a.kind = b.kind ∧ a.frm = b.frm ∧ a.dst = b.dst ∧ a.view = b.view ∧ a.inst = b.inst ∧ a.len = b.len ∧ a.has = b.has ∧ a.mem = b.mem ∧ a.src = b.src ∧ a.pos = b.pos ∧ a.tot = b.tot ∧ a.data = b.data ∧ a.hop = b.hop ∧ a.seq = b.seq ∧ a.hav = b.hav ∧ a.nee = b.nee ∧ a.idx = b.idx ∧ a.ent = b.ent := by
  constructor
  · rintro rfl; exact ⟨rfl, rfl, rfl, rfl, rfl, rfl, rfl, rfl, rfl, rfl, rfl, rfl, rfl, rfl, rfl, rfl, rfl, rfl⟩
  · rintro ⟨h1, h2, h3, h4, h5, h6, h7, h8, h9, h10, h11, h12, h13, h14, h15, h16, h17, h18⟩; cases a; cases b; simp at h1 h2 h3 h4 h5 h6 h7 h8 h9 h10 h11 h12 h13 h14 h15 h16 h17 h18; subst h1 h2 h3 h4 h5 h6 h7 h8 h9 h10 h11 h12 h13 h14 h15 h16 h17 h18; rfl
instance : DecidableEq Mg := fun a b => decidable_of_iff _ (Mg.eq_iff a b).symm
/-- 0 to m -/
def wi (m z : Int) : Bool := decide (0 ≤ z) && decide (z ≤ m)
theorem wi_iff {m z : Int} : wi m z = true ↔ 0 ≤ z ∧ z ≤ m := by unfold wi; simp
def wis (k : Nat) (l : List Int) : Bool := decide (l.length ≤ k) && l.all (wi 1099511627776)
/-- an entry that may be told -/
def En.ok (e : En) : Bool := wi 1073741824 e.s && (wi 1073741824 e.q && (wi 1073741824 e.c.kind && (wi 1073741824 e.c.who && (decide (e.c.key.length ≤ 32) && (decide (e.c.val.length ≤ 32) && decide (e.c.old.length ≤ 32))))))
def Mg.headOk (m : Mg) : Bool := wi 6 m.frm && (wi 6 m.dst && wi 1099511627776 m.view)
def Mg.tailOk (m : Mg) : Bool :=
  if m.kind = 2 then wi 1099511627776 m.inst && wi 1099511627776 m.len
  else if m.kind = 3 then wi 127 m.mem && (wi 6 m.src && wi 1099511627776 m.len)
  else if m.kind = 4 then wi 1099511627776 m.pos
  else if m.kind = 5 then wi 1099511627776 m.pos && (wi 1099511627776 m.tot && decide (m.data.length ≤ 64))
  else if m.kind = 7 then wi 1099511627776 m.hop && (wi 1099511627776 m.seq && (wis 7 m.hav && wis 8 m.nee))
  else if m.kind = 8 then wi 1099511627776 m.idx && m.ent.ok
  else decide (m.kind = 1) || decide (m.kind = 6)
def Mg.ok (m : Mg) : Bool := m.headOk && m.tailOk
def eI (z : Int) : List Nat := Pk.enc (Pk.held z)
def Mg.has01 (m : Mg) : Int := if m.has then 1 else 0
def Mg.head (m : Mg) : List Nat := eI m.kind ++ (eI m.frm ++ (eI m.dst ++ eI m.view))
def Mg.tail (m : Mg) : List Nat :=
  if m.kind = 2 then eI m.inst ++ (eI m.len ++ eI m.has01)
  else if m.kind = 3 then eI m.mem ++ (eI m.src ++ eI m.len)
  else if m.kind = 4 then eI m.pos
  else if m.kind = 5 then eI m.pos ++ (eI m.tot ++ Pk.encB m.data)
  else if m.kind = 7 then eI m.hop ++ (eI m.seq ++ (encN m.hav.length ++ (Pk.encs m.hav ++ (encN m.nee.length ++ Pk.encs m.nee))))
  else if m.kind = 8 then eI m.idx ++ m.ent.enc
  else []
/-- its bytes -/
def Mg.enc (m : Mg) : List Nat := if m.ok = true then m.head ++ m.tail else []
/-- the fields that its kind names -/
def Mg.bare (m : Mg) : Mg :=
  let z := { Mg.zero with kind := m.kind, frm := m.frm, dst := m.dst, view := m.view }
  if m.kind = 2 then { z with inst := m.inst, len := m.len, has := m.has }
  else if m.kind = 3 then { z with mem := m.mem, src := m.src, len := m.len }
  else if m.kind = 4 then { z with pos := m.pos }
  else if m.kind = 5 then { z with pos := m.pos, tot := m.tot, data := m.data }
  else if m.kind = 7 then { z with hop := m.hop, seq := m.seq, hav := m.hav, nee := m.nee }
  else if m.kind = 8 then { z with idx := m.idx, ent := m.ent }
  else z
/-- numbers that are read -/
def getF : Nat → Pk.St → List Int × Pk.St
  | 0, s => ([], s)
  | k + 1, s => ((Pk.numV s 1099511627776 : Int) :: (getF k (Pk.numS s 1099511627776)).1, (getF k (Pk.numS s 1099511627776)).2)
def stF (m : Int) (s : Pk.St) : List Int × Pk.St := getF (Pk.numV s m) (Pk.numS s m)
/-- the state behind the head -/
def s4 (s : Pk.St) : Pk.St := Pk.numS (Pk.numS (Pk.numS (Pk.numS s 8) 6) 6) 1099511627776
def hd (s : Pk.St) : Mg := { Mg.zero with kind := (Pk.numV s 8 : Int), frm := (Pk.numV (Pk.numS s 8) 6 : Int), dst := (Pk.numV (Pk.numS (Pk.numS s 8) 6) 6 : Int), view := (Pk.numV (Pk.numS (Pk.numS (Pk.numS s 8) 6) 6) 1099511627776 : Int) }
def Mg.get (s : Pk.St) : Mg × Pk.St :=
  if Pk.numV s 8 = 2 then ({ hd s with inst := (Pk.numV (s4 s) 1099511627776 : Int), len := (Pk.numV (Pk.numS (s4 s) 1099511627776) 1099511627776 : Int), has := decide (Pk.numV (Pk.numS (Pk.numS (s4 s) 1099511627776) 1099511627776) 1 = 1) }, Pk.numS (Pk.numS (Pk.numS (s4 s) 1099511627776) 1099511627776) 1)
  else if Pk.numV s 8 = 3 then ({ hd s with mem := (Pk.numV (s4 s) 127 : Int), src := (Pk.numV (Pk.numS (s4 s) 127) 6 : Int), len := (Pk.numV (Pk.numS (Pk.numS (s4 s) 127) 6) 1099511627776 : Int) }, Pk.numS (Pk.numS (Pk.numS (s4 s) 127) 6) 1099511627776)
  else if Pk.numV s 8 = 4 then ({ hd s with pos := (Pk.numV (s4 s) 1099511627776 : Int) }, Pk.numS (s4 s) 1099511627776)
  else if Pk.numV s 8 = 5 then ({ hd s with pos := (Pk.numV (s4 s) 1099511627776 : Int), tot := (Pk.numV (Pk.numS (s4 s) 1099511627776) 1099511627776 : Int), data := Pk.bytV (Pk.numS (Pk.numS (s4 s) 1099511627776) 1099511627776) 64 }, Pk.bytS (Pk.numS (Pk.numS (s4 s) 1099511627776) 1099511627776) 64)
  else if Pk.numV s 8 = 7 then ({ hd s with hop := (Pk.numV (s4 s) 1099511627776 : Int), seq := (Pk.numV (Pk.numS (s4 s) 1099511627776) 1099511627776 : Int), hav := (stF 7 (Pk.numS (Pk.numS (s4 s) 1099511627776) 1099511627776)).1, nee := (stF 8 (stF 7 (Pk.numS (Pk.numS (s4 s) 1099511627776) 1099511627776)).2).1 }, (stF 8 (stF 7 (Pk.numS (Pk.numS (s4 s) 1099511627776) 1099511627776)).2).2)
  else if Pk.numV s 8 = 8 then ({ hd s with idx := (Pk.numV (s4 s) 1099511627776 : Int), ent := En.read (Pk.numS (s4 s) 1099511627776) }, (En.get (Pk.numS (s4 s) 1099511627776)).2)
  else (hd s, s4 s)
/-- the message of bytes, or none -/
def Mg.dec (l : List Nat) : Option Mg := if (Mg.get (some l)).1.kind ≠ 0 ∧ (Mg.get (some l)).2 = some [] then some (Mg.get (some l)).1 else none
theorem Mg.get_kind (s : Pk.St) : (Mg.get s).1.kind = (Pk.numV s 8 : Int) := by
  unfold Mg.get
  split; rfl
  split; rfl
  split; rfl
  split; rfl
  split; rfl
  split; rfl
  rfl
-- back
theorem rd1 {z m : Int} {rest : List Nat} (h : wi m z = true) (ht : m ≤ 4611686018427387904) : (Pk.numV (some (eI z ++ rest)) m : Int) = z ∧ Pk.numS (some (eI z ++ rest)) m = some rest :=
  num_of_encI (wi_iff.1 h).1 (wi_iff.1 h).2 ht
theorem rdN {n : Nat} {m : Int} {rest : List Nat} (hm : (n : Int) ≤ m) (ht : m ≤ 4611686018427387904) : Pk.numV (some (encN n ++ rest)) m = n ∧ Pk.numS (some (encN n ++ rest)) m = some rest := num_of_encN hm ht
theorem getF_enc (zs : List Int) (rest : List Nat) (h : zs.all (wi 1099511627776) = true) : getF zs.length (some (Pk.encs zs ++ rest)) = (zs, some rest) := by
  induction zs with
  | nil => rfl
  | cons z zs ih =>
    rw [List.all_cons, Bool.and_eq_true] at h
    have hb := rd1 (z := z) (m := 1099511627776) (rest := Pk.encs zs ++ rest) h.1 (by omega)
    have ih := ih h.2
    unfold eI at hb
    rw [show Pk.encs (z :: zs) ++ rest = Pk.enc (Pk.held z) ++ (Pk.encs zs ++ rest) by simp [Pk.encs]]
    simp only [List.length_cons, getF]
    rw [hb.1, hb.2, ih]
theorem stF_enc (zs : List Int) (k : Nat) (rest : List Nat) (h : wis k zs = true) (hk : k ≤ 100) : stF (k : Int) (some (encN zs.length ++ (Pk.encs zs ++ rest))) = (zs, some rest) := by
  unfold wis at h
  rw [Bool.and_eq_true, decide_eq_true_eq] at h
  have h1 := rdN (n := zs.length) (m := (k : Int)) (rest := Pk.encs zs ++ rest) (by omega) (by omega)
  unfold stF
  rw [h1.1, h1.2, getF_enc zs rest h.2]
theorem En.get_enc {e : En} (h : e.ok = true) (rest : List Nat) : En.get (some (e.enc ++ rest)) = (e, some rest) := by
  unfold En.ok at h
  simp only [Bool.and_eq_true, decide_eq_true_eq] at h
  obtain ⟨h1, h2, h3, h4, h5, h6, h7⟩ := h
  have e0 : e.enc ++ rest = eI e.s ++ (eI e.q ++ (eI e.c.kind ++ (eI e.c.who ++ (Pk.encB e.c.key ++ (Pk.encB e.c.val ++ (Pk.encB e.c.old ++ rest)))))) := by
    unfold En.enc eI; simp only [List.append_assoc]
  have k1 := rd1 (rest := eI e.q ++ (eI e.c.kind ++ (eI e.c.who ++ (Pk.encB e.c.key ++ (Pk.encB e.c.val ++ (Pk.encB e.c.old ++ rest)))))) h1 (by omega)
  have k2 := rd1 (rest := eI e.c.kind ++ (eI e.c.who ++ (Pk.encB e.c.key ++ (Pk.encB e.c.val ++ (Pk.encB e.c.old ++ rest))))) h2 (by omega)
  have k3 := rd1 (rest := eI e.c.who ++ (Pk.encB e.c.key ++ (Pk.encB e.c.val ++ (Pk.encB e.c.old ++ rest)))) h3 (by omega)
  have k4 := rd1 (rest := Pk.encB e.c.key ++ (Pk.encB e.c.val ++ (Pk.encB e.c.old ++ rest))) h4 (by omega)
  have k5 := byt_of_enc (x := e.c.key) (m := 32) (rest := Pk.encB e.c.val ++ (Pk.encB e.c.old ++ rest)) (by omega) (by omega)
  have k6 := byt_of_enc (x := e.c.val) (m := 32) (rest := Pk.encB e.c.old ++ rest) (by omega) (by omega)
  have k7 := byt_of_enc (x := e.c.old) (m := 32) (rest := rest) (by omega) (by omega)
  rw [e0]
  unfold En.get
  simp only []
  rw [k1.1, k1.2, k2.1, k2.2, k3.1, k3.2, k4.1, k4.2, k5.1, k5.2, k6.1, k6.2, k7.1, k7.2]
theorem En.read_enc {e : En} (h : e.ok = true) (rest : List Nat) : En.read (some (e.enc ++ rest)) = e := by
  unfold En.read
  rw [En.get_enc h]
  simp
theorem Mg.get_enc {m : Mg} (h : m.ok = true) (rest : List Nat) : Mg.get (some (m.enc ++ rest)) = (m.bare, some rest) := by
  have h0 := h
  unfold Mg.enc
  rw [if_pos h]
  unfold Mg.ok at h
  rw [Bool.and_eq_true] at h
  obtain ⟨hh, ht⟩ := h
  unfold Mg.headOk at hh
  simp only [Bool.and_eq_true] at hh
  obtain ⟨hh1, hh2, hh3⟩ := hh
  obtain ⟨T, hT⟩ : ∃ T, m.tail = T := ⟨_, rfl⟩
  have hk : wi 8 m.kind = true := by
    unfold Mg.tailOk at ht
    rw [wi_iff]
    split at ht; omega
    split at ht; omega
    split at ht; omega
    split at ht; omega
    split at ht; omega
    split at ht; omega
    simp at ht; omega
  have e0 : m.head ++ T ++ rest = eI m.kind ++ (eI m.frm ++ (eI m.dst ++ (eI m.view ++ (T ++ rest)))) := by
    unfold Mg.head; simp only [List.append_assoc]
  have k1 := rd1 (rest := eI m.frm ++ (eI m.dst ++ (eI m.view ++ (T ++ rest)))) hk (by omega)
  have k2 := rd1 (rest := eI m.dst ++ (eI m.view ++ (T ++ rest))) hh1 (by omega)
  have k3 := rd1 (rest := eI m.view ++ (T ++ rest)) hh2 (by omega)
  have k4 := rd1 (rest := T ++ rest) hh3 (by omega)
  rw [hT, e0]
  obtain ⟨s, hs⟩ : ∃ s : Pk.St, some (eI m.kind ++ (eI m.frm ++ (eI m.dst ++ (eI m.view ++ (T ++ rest))))) = s := ⟨_, rfl⟩
  have a4 : s4 s = some (T ++ rest) := by
    rw [← hs]; unfold s4; rw [k1.2, k2.2, k3.2, k4.2]
  have ah : hd s = { Mg.zero with kind := m.kind, frm := m.frm, dst := m.dst, view := m.view } := by
    rw [← hs]; unfold hd; rw [k1.1, k1.2, k2.1, k2.2, k3.1, k3.2, k4.1]
  have ak : (Pk.numV s 8 : Int) = m.kind := by rw [← hs]; exact k1.1
  rw [hs]
  clear hs k1 k2 k3 k4 e0 hh1 hh2 hh3 h0
  unfold Mg.get Mg.bare
  rw [a4, ah]
  unfold Mg.tailOk at ht
  unfold Mg.tail at hT
  by_cases c2 : m.kind = 2
  · rw [if_pos c2] at ht hT
    rw [if_pos (by omega), if_pos c2]
    rw [Bool.and_eq_true] at ht
    subst hT
    simp only [List.append_assoc]
    have q1 := rd1 (rest := eI m.len ++ (eI m.has01 ++ rest)) ht.1 (by omega)
    have q2 := rd1 (rest := eI m.has01 ++ rest) ht.2 (by omega)
    have q3 := rd1 (z := m.has01) (m := 1) (rest := rest) (by unfold Mg.has01; split <;> rfl) (by omega)
    rw [q1.1, q1.2, q2.1, q2.2, q3.2]
    have q4 : decide (Pk.numV (some (eI m.has01 ++ rest)) 1 = 1) = m.has := by
      have := q3.1
      unfold Mg.has01 at this ⊢
      cases hb : m.has <;> rw [hb] at this <;> simp at this ⊢ <;> omega
    rw [q4]
  rw [if_neg c2] at ht hT
  rw [if_neg (by omega), if_neg c2]
  by_cases c3 : m.kind = 3
  · rw [if_pos c3] at ht hT
    rw [if_pos (by omega), if_pos c3]
    simp only [Bool.and_eq_true] at ht
    subst hT
    simp only [List.append_assoc]
    have q1 := rd1 (rest := eI m.src ++ (eI m.len ++ rest)) ht.1 (by omega)
    have q2 := rd1 (rest := eI m.len ++ rest) ht.2.1 (by omega)
    have q3 := rd1 (rest := rest) ht.2.2 (by omega)
    rw [q1.1, q1.2, q2.1, q2.2, q3.1, q3.2]
  rw [if_neg c3] at ht hT
  rw [if_neg (by omega), if_neg c3]
  by_cases c4 : m.kind = 4
  · rw [if_pos c4] at ht hT
    rw [if_pos (by omega), if_pos c4]
    subst hT
    have q1 := rd1 (rest := rest) ht (by omega)
    rw [q1.1, q1.2]
  rw [if_neg c4] at ht hT
  rw [if_neg (by omega), if_neg c4]
  by_cases c5 : m.kind = 5
  · rw [if_pos c5] at ht hT
    rw [if_pos (by omega), if_pos c5]
    simp only [Bool.and_eq_true, decide_eq_true_eq] at ht
    subst hT
    simp only [List.append_assoc]
    have q1 := rd1 (rest := eI m.tot ++ (Pk.encB m.data ++ rest)) ht.1 (by omega)
    have q2 := rd1 (rest := Pk.encB m.data ++ rest) ht.2.1 (by omega)
    have q3 := byt_of_enc (x := m.data) (m := 64) (rest := rest) (by omega) (by omega)
    rw [q1.1, q1.2, q2.1, q2.2, q3.1, q3.2]
  rw [if_neg c5] at ht hT
  rw [if_neg (by omega), if_neg c5]
  by_cases c7 : m.kind = 7
  · rw [if_pos c7] at ht hT
    rw [if_pos (by omega), if_pos c7]
    simp only [Bool.and_eq_true] at ht
    subst hT
    simp only [List.append_assoc]
    have q1 := rd1 (rest := eI m.seq ++ (encN m.hav.length ++ (Pk.encs m.hav ++ (encN m.nee.length ++ (Pk.encs m.nee ++ rest))))) ht.1 (by omega)
    have q2 := rd1 (rest := encN m.hav.length ++ (Pk.encs m.hav ++ (encN m.nee.length ++ (Pk.encs m.nee ++ rest)))) ht.2.1 (by omega)
    have q3 : stF 7 (some (encN m.hav.length ++ (Pk.encs m.hav ++ (encN m.nee.length ++ (Pk.encs m.nee ++ rest))))) = _ := stF_enc m.hav 7 (encN m.nee.length ++ (Pk.encs m.nee ++ rest)) ht.2.2.1 (by omega)
    have q4 : stF 8 (some (encN m.nee.length ++ (Pk.encs m.nee ++ rest))) = _ := stF_enc m.nee 8 rest ht.2.2.2 (by omega)
    rw [q1.1, q1.2, q2.1, q2.2]
    rw [q3]
    simp only []
    rw [q4]
  rw [if_neg c7] at ht hT
  rw [if_neg (by omega), if_neg c7]
  by_cases c8 : m.kind = 8
  · rw [if_pos c8] at ht hT
    rw [if_pos (by omega), if_pos c8]
    simp only [Bool.and_eq_true] at ht
    subst hT
    simp only [List.append_assoc]
    have q1 := rd1 (rest := m.ent.enc ++ rest) ht.1 (by omega)
    rw [q1.1, q1.2, En.get_enc ht.2, En.read_enc ht.2]
  rw [if_neg c8] at ht hT
  rw [if_neg (by omega), if_neg c8]
  subst hT
  rfl
theorem Mg.bare_kind (m : Mg) : m.bare.kind = m.kind := by
  unfold Mg.bare; simp only []
  split; rfl
  split; rfl
  split; rfl
  split; rfl
  split; rfl
  split; rfl
  rfl
theorem Mg.ok_kind {m : Mg} (h : m.ok = true) : m.kind ≠ 0 := by
  intro h0
  unfold Mg.ok Mg.tailOk at h
  simp [h0] at h
theorem Mg.dec_enc {m : Mg} (h : m.ok = true) : Mg.dec m.enc = some m.bare := by
  have e := Mg.get_enc h []
  rw [List.append_nil] at e
  have hk : m.bare.kind ≠ 0 := by rw [Mg.bare_kind]; exact Mg.ok_kind h
  unfold Mg.dec
  rw [e, if_pos ⟨hk, rfl⟩]
theorem Mg.dec_more {m : Mg} (h : m.ok = true) (x : Nat) (r : List Nat) : Mg.dec (m.enc ++ x :: r) = none := by
  unfold Mg.dec
  rw [Mg.get_enc h, if_neg]
  rintro ⟨_, h2⟩
  injection h2 with h2
  cases h2
end Go.Proofs.Ytlfkgpllleogoaa

namespace Go.Proofs.Ytlfkgpllleogoaa
open Go.RowKit
set_option linter.unusedVariables false
/-- blocks of other types than bytes stay as they are -/
structure OnlyB (w w' : World) : Prop where
  size : w.heap.size ≤ w'.heap.size
  blk : ∀ {g : Nat} {t : TypeId} {cs : Array Value}, 5 ≠ t → Blk w g t cs → Blk w' g t cs
section
variable {W w w' w'' : World} {A : Option Addr} {n c : Nat} {l : List Nat}
theorem OnlyB.trans (h : OnlyB w w') (h' : OnlyB w' w'') : OnlyB w w'' := ⟨Nat.le_trans h.size h'.size, fun hn hb => h'.blk hn (h.blk hn hb)⟩
theorem OnlyB.of_below (h : Below w.heap.size w w') : OnlyB w w' := ⟨h.size, fun _ hb => hb.below h⟩
theorem OnlyB.grown {base : Nat} {xs : List Value} (h : w.ownsRow base 5 1 (.slice A n c) n xs) (hg : w.grownBy w' (Value.slice A n c).ownBlock) : OnlyB w w' :=
  ⟨hg.size, fun hn hb => hb.apart_own h (Ne.symm hn) hg⟩
theorem RdT.onlyB {e : TypeId} {vs : List Value} (h : RdT w e A n vs) (hb : OnlyB w w') (hne : 5 ≠ e) : RdT w' e A n vs :=
  ⟨h.1, fun hn => by obtain ⟨g, o, cur, e1, hk, hc⟩ := h.2 hn; exact ⟨g, o, cur, e1, hb.blk hne hk, hc⟩⟩
end
/-- l, in a row of W's own that may have been there -/
def GotPut (W w : World) (l : List Nat) (e : Ending) (w' : World) : Prop := ∃ A c, e = .returned (.slice A l.length c) ∧ OwnB W w' A l.length c l ∧ Below W.heap.size W w' ∧ OnlyB w w'
set_option maxRecDepth 100000 in
theorem putNum_any {W w : World} {A : Option Addr} {n c : Nat} {l : List Nat} (z : Int) (hl : l.length ≤ 1000000) (ho : OwnB W w A n c l) (hB : Below W.heap.size W w) :
    Calls Try.prog 107 #[.slice A n c, .int .i64 z] w (GotPut W w (l ++ Pk.enc (Pk.held z))) := by
  obtain rfl := own_len ho
  have HO := Lib.hid ho
  have HB := Lib.hid hB
  have HX : Hid (∀ w, Below W.heap.size W w → Calls Try.prog 59 #[.slice none 0 0, .int .i64 z] w fun e w' => ∃ A n c, e = .returned (.slice A n c) ∧ OwnB W w' A n c (Pk.enc (Pk.held z)) ∧ Below W.heap.size W w' ∧ Below w.heap.size w w') :=
    Lib.hid (fun w hb => put_in (W := W) (l := []) (B := 0) (n := 0) (by unfold Lim; omega) (Rd.none_ _ _ _) hb rfl)
  obtain ⟨x, hx⟩ : ∃ x, Pk.enc (Pk.held z) = x := ⟨_, rfl⟩
  have hxl : x.length ≤ 9 := by rw [← hx]; exact (Pk.enc_length _).2
  rw [hx] at HX ⊢
  clear ho hB hx
  go_enter Try.func107, Try.ntmps107
  go_wp2_with (first
    | (go_at_call 59; refine (HX.out _ HB.out).mono ?_; rintro e w1 ⟨A1, n1, c1, rfl, ho1, hB1, hb1⟩; obtain rfl := own_len ho1)
    | (at_builtin
       refine wpList_append_cells (W := W) cellB (.tmp 5) (.tmp 7) rfl (by rfl) rfl (own_below HO.out hb1) rfl (Rd.own_ ho1) (bv_one _) (by omega) (by omega) hB1 ?_
       intro A3 c3 w3 hown3 hB3 hg3)
    | fail)
  go_ret
  rw [← bv_app] at hown3
  refine ⟨A3, c3, by rw [List.length_append]; rfl, by rw [List.length_append]; exact hown3, hB3, (OnlyB.of_below hb1).trans (OnlyB.grown (own_below HO.out hb1) hg3)⟩
end Go.Proofs.Ytlfkgpllleogoaa

namespace Go.Proofs.Ytlfkgpllleogoaa
open Go.RowKit
set_option linter.unusedVariables false
theorem take_snoc {α : Type} {l : List α} {k : Nat} {x : α} (h : l[k]? = some x) : l.take (k + 1) = l.take k ++ [x] := by rw [List.take_add_one, h]; rfl
end Go.Proofs.Ytlfkgpllleogoaa

namespace Go.Proofs.Ytlfkgpllleogoaa
open Go.RowKit
set_option linter.unusedVariables false
set_option maxHeartbeats 1000000 in
theorem same_any (w : World) (A A' : Option Addr) (n c n' c' B B' : Nat) (zs zs' : List Int) (h : Rd w B A n (iv zs)) (h' : Rd w B' A' n' (iv zs')) (hn : n ≤ maxLen) (hn' : n' ≤ maxLen) :
    Calls Try.prog 43 #[.slice A n c, .slice A' n' c'] w fun e w' => e = .returned (.bool (decide (zs = zs'))) ∧ ∃ k, w' = w.drewN k := by
  have hl : zs.length = n := by have := h.1; rwa [iv_length] at this
  have hl' : zs'.length = n' := by have := h'.1; rwa [iv_length] at this
  unfold maxLen at hn hn'
  by_cases hne : n = n'
  · subst hne
    have HN : Hid (n ≤ 9223372036854775807) := Lib.hid (by omega)
    have HL := Lib.hid hl
    have HL' := Lib.hid hl'
    have H := Lib.hid h
    have H' := Lib.hid h'
    clear h h' hl hl' hn hn'
    go_enter Try.func43, Try.ntmps43
    go_wp2
    go_loopw [5] (fun i wr => ∃ k : Nat, k ≤ n ∧ i = .int .i64 k ∧ (∀ j, j < k → zs[j]? = zs'[j]?) ∧ ∃ m, wr = w.drewN m) (fun i _ => n - (intOf i).toNat)
    case atStart => exact ⟨0, Nat.zero_le _, rfl, fun j hj => absurd hj (by omega), 0, rfl⟩
    case round =>
      obtain ⟨k, hk, rfl, hs, m, hm⟩ := hrel
      have hkm : (k : Int) ≤ 9223372036854775806 ∨ k = n := by have := HN.out; omega
      by_cases hlt : k < n
      · obtain ⟨z, hz⟩ : ∃ z, zs[k]? = some z := ⟨_, List.getElem?_eq_getElem (by have := HL.out; omega)⟩
        obtain ⟨z', hz'⟩ : ∃ z, zs'[k]? = some z := ⟨_, List.getElem?_eq_getElem (by have := HL'.out; omega)⟩
        obtain ⟨b, o, rfl, _⟩ := H.out.int_at hlt
        obtain ⟨b', o', rfl, _⟩ := H'.out.int_at hlt
        have hc : wr.cell? ⟨b, o + k, none⟩ = some (.int .i64 z) := by rw [hm]; exact H.out.int_cell hlt hz
        have hc' : wr.cell? ⟨b', o' + k, none⟩ = some (.int .i64 z') := by rw [hm]; exact H'.out.int_cell hlt hz'
        have hv : IntKind.i64.wrap ((k : Int) + 1) = (k : Int) + 1 := IntWalk.i64_in _ (by have := HN.out; omega)
        have HS := Lib.hid hs
        have HZ := Lib.hid hz
        have HZ' := Lib.hid hz'
        have HM := Lib.hid hm
        clear hs hz hz' hm hkm
        by_cases he : z = z'
        · subst he
          go_wp2
          go_quiet (fail)
          go_wp2
          go_roundw
          case rel =>
            refine ⟨k + 1, by omega, by go_num, fun j hj => ?_, m + nq, by rw [HM.out, World.drewN_drewN]⟩
            rcases Nat.lt_or_ge j k with h1 | h1
            · exact HS.out j h1
            · obtain rfl : j = k := by omega
              rw [HZ.out, HZ'.out]
          case measure => simp [intOf]; omega
        · have he' : (z == z') = false := by simpa using he
          have he2 : (z != z') = true := by simpa using he
          have HE := Lib.hid (show decide (zs = zs') = false by
            rw [decide_eq_false_iff_not]
            rintro rfl
            have h1 := HZ.out
            rw [HZ'.out] at h1
            injection h1 with h1
            exact he h1.symm)
          clear he
          go_wp2
          go_quiet (fail)
          go_wp2
          go_ret
          exact ⟨ret_bool HE.out.symm, m + nq, by rw [HM.out, World.drewN_drewN]⟩
      · have hkn : k = n := by omega
        have HE := Lib.hid (show decide (zs = zs') = true by
          rw [decide_eq_true_iff]
          apply List.ext_getElem?
          intro j
          rcases Nat.lt_or_ge j n with h1 | h1
          · exact hs j (by omega)
          · rw [List.getElem?_eq_none (by have := HL.out; omega), List.getElem?_eq_none (by have := HL'.out; omega)])
        have HM := Lib.hid hm
        clear hs hkn hm hkm
        go_wp2
        go_ret
        exact ⟨ret_bool HE.out.symm, m, HM.out⟩
  · have HE := Lib.hid (show decide (zs = zs') = false by
      rw [decide_eq_false_iff_not]; rintro rfl; omega)
    have hd : ((n : Int) == (n' : Int)) = false := by simp; omega
    have hd2 : ((n : Int) != (n' : Int)) = true := by simp; omega
    clear h h' hl hl' hn hn' hne
    go_enter Try.func43, Try.ntmps43
    go_wp2
    go_ret
    exact ⟨ret_bool HE.out.symm, 0, rfl⟩
end Go.Proofs.Ytlfkgpllleogoaa

namespace Go.Proofs.Ytlfkgpllleogoaa
open Go.RowKit
set_option linter.unusedVariables false

/-- a number of 32 bits, behind a name -/
def Crc.U32 (n : Nat) : Prop := n < 4294967296
theorem Crc.and_one {n : Nat} (h : Crc.U32 n) : bits .and .u32 (n : Int) 1 = ((n % 2 : Nat) : Int) := by
  have e := u32_and_nat n 1 h (by decide)
  rw [Nat.and_one_is_mod] at e
  exact e
theorem Crc.stp_odd {n : Nat} (h : Crc.U32 n) (ho : (bits .and .u32 (n : Int) 1 == 1) = true) : bits .xor .u32 ((n : Int) / 2) 3988292384 = ((Crc.stp n : Nat) : Int) := by
  rw [Crc.and_one h] at ho
  have ho' : n % 2 = 1 := by have := beq_iff_eq.1 ho; omega
  unfold Crc.U32 at h
  have e := u32_xor_nat (n / 2) 3988292384 (by omega) (by decide)
  rw [Crc.stp, if_pos ho']
  exact e
theorem Crc.stp_even {n : Nat} (h : Crc.U32 n) (ho : (bits .and .u32 (n : Int) 1 == 1) = false) : (n : Int) / 2 = ((Crc.stp n : Nat) : Int) := by
  rw [Crc.and_one h] at ho
  have ho' : n % 2 ≠ 1 := by have := beq_eq_false_iff_ne.1 ho; omega
  rw [Crc.stp, if_neg ho']
  omega
theorem step_any (n : Nat) (h : Crc.U32 n) (w : World) :
    Calls Try.prog 83 #[.int .u32 n] w fun e w' => e = .returned (.int .u32 (Crc.stp n : Nat)) ∧ w = w' := by
  go_enter Try.func83, Try.ntmps83
  go_wp2
  · have ho : (bits .and .u32 (n : Int) 1 == 1) = true := by assumption
    go_ret
    exact ⟨ret_int (Crc.stp_odd h ho), rfl⟩
  · have ho : (bits .and .u32 (n : Int) 1 == 1) = false := by assumption
    go_ret
    exact ⟨ret_int (Crc.stp_even h ho), rfl⟩

theorem next_any (c x : Nat) (hc : Crc.U32 c) (hx : x < 256) (w : World) :
    Calls Try.prog 80 #[.int .u32 c, .int .u8 x] w fun e w' => e = .returned (.int .u32 (Crc.nxt c x : Nat)) ∧ w = w' := by
  have hcx : Crc.U32 (c ^^^ x) := Crc.xor_lt32 hc (by omega)
  go_enter Try.func80, Try.ntmps80
  have hx0 : bits .xor .u32 (c : Int) (x : Int) = ((c ^^^ x : Nat) : Int) := u32_xor_nat c x hc (by omega)
  go_wp2
  go_loop [0, 9] (fun c' i => ∃ k : Nat, k ≤ 8 ∧ i = .int .i64 k ∧ c' = .int .u32 (Crc.stpN k (c ^^^ x) : Nat)) (fun _ i => 8 - (intOf i).toNat)
  case atStart => exact ⟨0, by omega, rfl, by first | rfl | (rw [hx0]; rfl)⟩
  case round =>
    obtain ⟨k, hk, rfl, rfl⟩ := hrel
    have hs : Crc.U32 (Crc.stpN k (c ^^^ x)) := Crc.stpN_lt k hcx
    by_cases hlt : k < 8
    · go_wp2_with (go_at_call 83; refine (step_any _ hs _).mono ?_; rintro e w' ⟨rfl, rfl⟩)
      go_round
      case rel => exact ⟨k + 1, by omega, by go_num, rfl⟩
      case measure => simp [intOf]; omega
    · go_wp2
      go_ret
      exact ⟨ret_int (by have : k = 8 := by omega
                         subst this; rfl), rfl⟩

theorem Crc.run_zero (c : Nat) (l : List Nat) : Crc.run c (l.take 0) = c := by simp [Crc.run]
theorem Crc.run_take (c : Nat) (l : List Nat) (k : Nat) (h : k < l.length) : Crc.run c (l.take (k + 1)) = Crc.nxt (Crc.run c (l.take k)) l[k] := by
  rw [List.take_succ_eq_append_getElem h, Crc.run_snoc]
theorem Crc.take_lt {l : List Nat} (hl : ∀ x ∈ l, x < 256) (k : Nat) : ∀ x ∈ l.take k, x < 256 := fun x hx => hl x (List.mem_of_mem_take hx)
theorem sum_any (l : List Nat) (hl : ∀ x ∈ l, x < 256) (a : Option Addr) (n cap B : Nat) (hn : n ≤ maxLen) (w : World) (h : Rd w B a n (bv l)) :
    Calls Try.prog 76 #[.slice a n cap] w fun e w' => e = .returned (.int .u32 (Crc.sum l : Nat)) ∧ w = w' := by
  unfold maxLen at hn
  have hlen := Lib.hid h.length
  have H := Lib.hid h
  clear h
  have H0 := Lib.hid (Crc.run_zero 4294967295 l)
  go_enter Try.func76, Try.ntmps76
  go_wp2
  go_loop [3, 5, 8] (fun c x i => ∃ k : Nat, k ≤ n ∧ i = .int .i64 k ∧ c = .int .u32 (Crc.run 4294967295 (l.take k) : Nat)) (fun _ _ i => n - (intOf i).toNat)
  case atStart => exact ⟨0, by omega, rfl, by rw [H0.out]; rfl⟩
  case round =>
    obtain ⟨k, hk, rfl, rfl⟩ := hrel
    have hs : Crc.U32 (Crc.run 4294967295 (l.take k)) := Crc.run_lt _ (by omega) (Crc.take_lt hl k)
    by_cases hlt : k < n
    · obtain ⟨b, o, rfl, hk', hc⟩ := H.out.bytes_at hlt
      have hx : l[k] < 256 := hl _ (List.getElem_mem hk')
      have HT := Lib.hid (Crc.run_take 4294967295 l k hk')
      go_wp2_with (go_at_call 80; refine (next_any _ _ hs hx _).mono ?_; rintro e w' ⟨rfl, rfl⟩)
      go_round
      case rel => exact ⟨k + 1, by omega, by go_num, by rw [HT.out]⟩
      case measure => simp [intOf]; omega
    · have HK := Lib.hid (show k = l.length from by have := hlen.out; omega)
      have hx := u32_xor_nat (Crc.run 4294967295 (l.take k)) 4294967295 hs (by omega)
      have HX := Lib.hid hx
      clear hx
      go_wp2
      go_ret
      exact ⟨ret_int (by
        refine Eq.trans HX.out ?_
        rw [HK.out, List.take_length]; rfl), rfl⟩
end Go.Proofs.Ytlfkgpllleogoaa

