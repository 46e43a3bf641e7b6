/- MesgMath StepBN -/
import Derived.Test.YtmdkbmafkglhdaaFT03
import Derived.Test.YtmdkbmafkglhdaaFT05
import Derived.Test.YtmdkbmafkglhdaaFT10
import Derived.Test.YtmdkbmafkglhdaaFT11
import Derived.Test.YtmdkbmafkglhdaaFT12
import Derived.Test.YtmdkbmafkglhdaaFT13
namespace Go.Proofs.Ytmdkbmafkglhdaa
open Go.RowKit
set_option linter.unusedVariables false
/-- a message -/
structure Mg where
  kind : Int
  frm : Int
  dst : Int
  view : Int
  inst : Int
  len : Int
  has : Bool
  mem : Int
  src : Int
  pos : Int
  tot : Int
  data : List Nat
  hop : Int
  seq : Int
  hav : List Int
  nee : List Int
  idx : Int
  ent : En
def Mg.zero : Mg := ⟨0, 0, 0, 0, 0, 0, false, 0, 0, 0, 0, [], 0, 0, [], [], 0, En.zero⟩
theorem Mg.eq_iff (a b : Mg) : a = b ↔ a.kind = b.kind ∧ a.frm = b.frm ∧ a.dst = b.dst ∧ a.view = b.view ∧ a.inst = b.inst ∧ a.len = b.len ∧ a.has = b.has ∧ a.mem = b.mem ∧ a.src = b.src ∧ a.pos = b.pos ∧ a.tot = b.tot ∧ a.data = b.data ∧ a.hop = b.hop ∧ a.seq = b.seq ∧ a.hav = b.hav ∧ a.nee = b.nee ∧ a.idx = b.idx ∧ a.ent = b.ent := by
  constructor
  · rintro rfl; exact ⟨rfl, rfl, rfl, rfl, rfl, rfl, rfl, rfl, rfl, rfl, rfl, rfl, rfl, rfl, rfl, rfl, rfl, rfl⟩
  · rintro ⟨h1, h2, h3, h4, h5, h6, h7, h8, h9, h10, h11, h12, h13, h14, h15, h16, h17, h18⟩; cases a; cases b; simp at h1 h2 h3 h4 h5 h6 h7 h8 h9 h10 h11 h12 h13 h14 h15 h16 h17 h18; subst h1 h2 h3 h4 h5 h6 h7 h8 h9 h10 h11 h12 h13 h14 h15 h16 h17 h18; rfl
instance : DecidableEq Mg := fun a b => decidable_of_iff _ (Mg.eq_iff a b).symm
/-- 0 to m -/
def wi (m z : Int) : Bool := decide (0 ≤ z) && decide (z ≤ m)
theorem wi_iff {m z : Int} : wi m z = true ↔ 0 ≤ z ∧ z ≤ m := by unfold wi; simp
def wis (k : Nat) (l : List Int) : Bool := decide (l.length ≤ k) && l.all (wi 1099511627776)
/-- an entry that may be told -/
def En.ok (e : En) : Bool := wi 1073741824 e.s && (wi 1073741824 e.q && (wi 1073741824 e.c.kind && (wi 1073741824 e.c.who && (decide (e.c.key.length ≤ 32) && (decide (e.c.val.length ≤ 32) && decide (e.c.old.length ≤ 32))))))
def Mg.headOk (m : Mg) : Bool := wi 6 m.frm && (wi 6 m.dst && wi 1099511627776 m.view)
def Mg.tailOk (m : Mg) : Bool :=
  if m.kind = 2 then wi 1099511627776 m.inst && wi 1099511627776 m.len
  else if m.kind = 3 then wi 127 m.mem && (wi 6 m.src && wi 1099511627776 m.len)
  else if m.kind = 4 then wi 1099511627776 m.pos
  else if m.kind = 5 then wi 1099511627776 m.pos && (wi 1099511627776 m.tot && decide (m.data.length ≤ 64))
  else if m.kind = 7 then wi 1099511627776 m.hop && (wi 1099511627776 m.seq && (wis 7 m.hav && wis 8 m.nee))
  else if m.kind = 8 then wi 1099511627776 m.idx && m.ent.ok
  else decide (m.kind = 1) || decide (m.kind = 6)
def Mg.ok (m : Mg) : Bool := m.headOk && m.tailOk
def eI (z : Int) : List Nat := Pk.enc (Pk.held z)
def Mg.has01 (m : Mg) : Int := if m.has then 1 else 0
def Mg.head (m : Mg) : List Nat := eI m.kind ++ (eI m.frm ++ (eI m.dst ++ eI m.view))
def Mg.tail (m : Mg) : List Nat :=
  if m.kind = 2 then eI m.inst ++ (eI m.len ++ eI m.has01)
  else if m.kind = 3 then eI m.mem ++ (eI m.src ++ eI m.len)
  else if m.kind = 4 then eI m.pos
  else if m.kind = 5 then eI m.pos ++ (eI m.tot ++ Pk.encB m.data)
  else if m.kind = 7 then eI m.hop ++ (eI m.seq ++ (encN m.hav.length ++ (Pk.encs m.hav ++ (encN m.nee.length ++ Pk.encs m.nee))))
  else if m.kind = 8 then eI m.idx ++ m.ent.enc
  else []
/-- its bytes -/
def Mg.enc (m : Mg) : List Nat := if m.ok = true then m.head ++ m.tail else []
/-- the fields that its kind names -/
def Mg.bare (m : Mg) : Mg :=
  let z := { Mg.zero with kind := m.kind, frm := m.frm, dst := m.dst, view := m.view }
  if m.kind = 2 then { z with inst := m.inst, len := m.len, has := m.has }
  else if m.kind = 3 then { z with mem := m.mem, src := m.src, len := m.len }
  else if m.kind = 4 then { z with pos := m.pos }
  else if m.kind = 5 then { z with pos := m.pos, tot := m.tot, data := m.data }
  else if m.kind = 7 then { z with hop := m.hop, seq := m.seq, hav := m.hav, nee := m.nee }
  else if m.kind = 8 then { z with idx := m.idx, ent := m.ent }
  else z
/-- numbers that are read -/
def getF : Nat → Pk.St → List Int × Pk.St
  | 0, s => ([], s)
  | k + 1, s => ((Pk.numV s 1099511627776 : Int) :: (getF k (Pk.numS s 1099511627776)).1, (getF k (Pk.numS s 1099511627776)).2)
def stF (m : Int) (s : Pk.St) : List Int × Pk.St := getF (Pk.numV s m) (Pk.numS s m)
/-- the state behind the head -/
def s4 (s : Pk.St) : Pk.St := Pk.numS (Pk.numS (Pk.numS (Pk.numS s 8) 6) 6) 1099511627776
def hd (s : Pk.St) : Mg := { Mg.zero with kind := (Pk.numV s 8 : Int), frm := (Pk.numV (Pk.numS s 8) 6 : Int), dst := (Pk.numV (Pk.numS (Pk.numS s 8) 6) 6 : Int), view := (Pk.numV (Pk.numS (Pk.numS (Pk.numS s 8) 6) 6) 1099511627776 : Int) }
def Mg.get (s : Pk.St) : Mg × Pk.St :=
  if Pk.numV s 8 = 2 then ({ hd s with inst := (Pk.numV (s4 s) 1099511627776 : Int), len := (Pk.numV (Pk.numS (s4 s) 1099511627776) 1099511627776 : Int), has := decide (Pk.numV (Pk.numS (Pk.numS (s4 s) 1099511627776) 1099511627776) 1 = 1) }, Pk.numS (Pk.numS (Pk.numS (s4 s) 1099511627776) 1099511627776) 1)
  else if Pk.numV s 8 = 3 then ({ hd s with mem := (Pk.numV (s4 s) 127 : Int), src := (Pk.numV (Pk.numS (s4 s) 127) 6 : Int), len := (Pk.numV (Pk.numS (Pk.numS (s4 s) 127) 6) 1099511627776 : Int) }, Pk.numS (Pk.numS (Pk.numS (s4 s) 127) 6) 1099511627776)
  else if Pk.numV s 8 = 4 then ({ hd s with pos := (Pk.numV (s4 s) 1099511627776 : Int) }, Pk.numS (s4 s) 1099511627776)
  else if Pk.numV s 8 = 5 then ({ hd s with pos := (Pk.numV (s4 s) 1099511627776 : Int), tot := (Pk.numV (Pk.numS (s4 s) 1099511627776) 1099511627776 : Int), data := Pk.bytV (Pk.numS (Pk.numS (s4 s) 1099511627776) 1099511627776) 64 }, Pk.bytS (Pk.numS (Pk.numS (s4 s) 1099511627776) 1099511627776) 64)
  else if Pk.numV s 8 = 7 then ({ hd s with hop := (Pk.numV (s4 s) 1099511627776 : Int), seq := (Pk.numV (Pk.numS (s4 s) 1099511627776) 1099511627776 : Int), hav := (stF 7 (Pk.numS (Pk.numS (s4 s) 1099511627776) 1099511627776)).1, nee := (stF 8 (stF 7 (Pk.numS (Pk.numS (s4 s) 1099511627776) 1099511627776)).2).1 }, (stF 8 (stF 7 (Pk.numS (Pk.numS (s4 s) 1099511627776) 1099511627776)).2).2)
  else if Pk.numV s 8 = 8 then ({ hd s with idx := (Pk.numV (s4 s) 1099511627776 : Int), ent := En.read (Pk.numS (s4 s) 1099511627776) }, (En.get (Pk.numS (s4 s) 1099511627776)).2)
  else (hd s, s4 s)
/-- the message of bytes, or none -/
def Mg.dec (l : List Nat) : Option Mg := if (Mg.get (some l)).1.kind ≠ 0 ∧ (Mg.get (some l)).2 = some [] then some (Mg.get (some l)).1 else none
theorem Mg.get_kind (s : Pk.St) : (Mg.get s).1.kind = (Pk.numV s 8 : Int) := by
  unfold Mg.get
  split; rfl
  split; rfl
  split; rfl
  split; rfl
  split; rfl
  split; rfl
  rfl
-- back
theorem rd1 {z m : Int} {rest : List Nat} (h : wi m z = true) (ht : m ≤ 4611686018427387904) : (Pk.numV (some (eI z ++ rest)) m : Int) = z ∧ Pk.numS (some (eI z ++ rest)) m = some rest :=
  num_of_encI (wi_iff.1 h).1 (wi_iff.1 h).2 ht
theorem rdN {n : Nat} {m : Int} {rest : List Nat} (hm : (n : Int) ≤ m) (ht : m ≤ 4611686018427387904) : Pk.numV (some (encN n ++ rest)) m = n ∧ Pk.numS (some (encN n ++ rest)) m = some rest := num_of_encN hm ht
theorem getF_enc (zs : List Int) (rest : List Nat) (h : zs.all (wi 1099511627776) = true) : getF zs.length (some (Pk.encs zs ++ rest)) = (zs, some rest) := by
  induction zs with
  | nil => rfl
  | cons z zs ih =>
    rw [List.all_cons, Bool.and_eq_true] at h
    have hb := rd1 (z := z) (m := 1099511627776) (rest := Pk.encs zs ++ rest) h.1 (by omega)
    have ih := ih h.2
    unfold eI at hb
    rw [show Pk.encs (z :: zs) ++ rest = Pk.enc (Pk.held z) ++ (Pk.encs zs ++ rest) by simp [Pk.encs]]
    simp only [List.length_cons, getF]
    rw [hb.1, hb.2, ih]
theorem stF_enc (zs : List Int) (k : Nat) (rest : List Nat) (h : wis k zs = true) (hk : k ≤ 100) : stF (k : Int) (some (encN zs.length ++ (Pk.encs zs ++ rest))) = (zs, some rest) := by
  unfold wis at h
  rw [Bool.and_eq_true, decide_eq_true_eq] at h
  have h1 := rdN (n := zs.length) (m := (k : Int)) (rest := Pk.encs zs ++ rest) (by omega) (by omega)
  unfold stF
  rw [h1.1, h1.2, getF_enc zs rest h.2]
theorem En.get_enc {e : En} (h : e.ok = true) (rest : List Nat) : En.get (some (e.enc ++ rest)) = (e, some rest) := by
  unfold En.ok at h
  simp only [Bool.and_eq_true, decide_eq_true_eq] at h
  obtain ⟨h1, h2, h3, h4, h5, h6, h7⟩ := h
  have e0 : e.enc ++ rest = eI e.s ++ (eI e.q ++ (eI e.c.kind ++ (eI e.c.who ++ (Pk.encB e.c.key ++ (Pk.encB e.c.val ++ (Pk.encB e.c.old ++ rest)))))) := by
    unfold En.enc eI; simp only [List.append_assoc]
  have k1 := rd1 (rest := eI e.q ++ (eI e.c.kind ++ (eI e.c.who ++ (Pk.encB e.c.key ++ (Pk.encB e.c.val ++ (Pk.encB e.c.old ++ rest)))))) h1 (by omega)
  have k2 := rd1 (rest := eI e.c.kind ++ (eI e.c.who ++ (Pk.encB e.c.key ++ (Pk.encB e.c.val ++ (Pk.encB e.c.old ++ rest))))) h2 (by omega)
  have k3 := rd1 (rest := eI e.c.who ++ (Pk.encB e.c.key ++ (Pk.encB e.c.val ++ (Pk.encB e.c.old ++ rest)))) h3 (by omega)
  have k4 := rd1 (rest := Pk.encB e.c.key ++ (Pk.encB e.c.val ++ (Pk.encB e.c.old ++ rest))) h4 (by omega)
  have k5 := byt_of_enc (x := e.c.key) (m := 32) (rest := Pk.encB e.c.val ++ (Pk.encB e.c.old ++ rest)) (by omega) (by omega)
  have k6 := byt_of_enc (x := e.c.val) (m := 32) (rest := Pk.encB e.c.old ++ rest) (by omega) (by omega)
  have k7 := byt_of_enc (x := e.c.old) (m := 32) (rest := rest) (by omega) (by omega)
  rw [e0]
  unfold En.get
  simp only []
  rw [k1.1, k1.2, k2.1, k2.2, k3.1, k3.2, k4.1, k4.2, k5.1, k5.2, k6.1, k6.2, k7.1, k7.2]
theorem En.read_enc {e : En} (h : e.ok = true) (rest : List Nat) : En.read (some (e.enc ++ rest)) = e := by
  unfold En.read
  rw [En.get_enc h]
  simp
theorem Mg.get_enc {m : Mg} (h : m.ok = true) (rest : List Nat) : Mg.get (some (m.enc ++ rest)) = (m.bare, some rest) := by
  have h0 := h
  unfold Mg.enc
  rw [if_pos h]
  unfold Mg.ok at h
  rw [Bool.and_eq_true] at h
  obtain ⟨hh, ht⟩ := h
  unfold Mg.headOk at hh
  simp only [Bool.and_eq_true] at hh
  obtain ⟨hh1, hh2, hh3⟩ := hh
  obtain ⟨T, hT⟩ : ∃ T, m.tail = T := ⟨_, rfl⟩
  have hk : wi 8 m.kind = true := by
    unfold Mg.tailOk at ht
    rw [wi_iff]
    split at ht; omega
    split at ht; omega
    split at ht; omega
    split at ht; omega
    split at ht; omega
    split at ht; omega
    simp at ht; omega
  have e0 : m.head ++ T ++ rest = eI m.kind ++ (eI m.frm ++ (eI m.dst ++ (eI m.view ++ (T ++ rest)))) := by
    unfold Mg.head; simp only [List.append_assoc]
  have k1 := rd1 (rest := eI m.frm ++ (eI m.dst ++ (eI m.view ++ (T ++ rest)))) hk (by omega)
  have k2 := rd1 (rest := eI m.dst ++ (eI m.view ++ (T ++ rest))) hh1 (by omega)
  have k3 := rd1 (rest := eI m.view ++ (T ++ rest)) hh2 (by omega)
  have k4 := rd1 (rest := T ++ rest) hh3 (by omega)
  rw [hT, e0]
  obtain ⟨s, hs⟩ : ∃ s : Pk.St, some (eI m.kind ++ (eI m.frm ++ (eI m.dst ++ (eI m.view ++ (T ++ rest))))) = s := ⟨_, rfl⟩
  have a4 : s4 s = some (T ++ rest) := by
    rw [← hs]; unfold s4; rw [k1.2, k2.2, k3.2, k4.2]
  have ah : hd s = { Mg.zero with kind := m.kind, frm := m.frm, dst := m.dst, view := m.view } := by
    rw [← hs]; unfold hd; rw [k1.1, k1.2, k2.1, k2.2, k3.1, k3.2, k4.1]
  have ak : (Pk.numV s 8 : Int) = m.kind := by rw [← hs]; exact k1.1
  rw [hs]
  clear hs k1 k2 k3 k4 e0 hh1 hh2 hh3 h0
  unfold Mg.get Mg.bare
  rw [a4, ah]
  unfold Mg.tailOk at ht
  unfold Mg.tail at hT
  by_cases c2 : m.kind = 2
  · rw [if_pos c2] at ht hT
    rw [if_pos (by omega), if_pos c2]
    rw [Bool.and_eq_true] at ht
    subst hT
    simp only [List.append_assoc]
    have q1 := rd1 (rest := eI m.len ++ (eI m.has01 ++ rest)) ht.1 (by omega)
    have q2 := rd1 (rest := eI m.has01 ++ rest) ht.2 (by omega)
    have q3 := rd1 (z := m.has01) (m := 1) (rest := rest) (by unfold Mg.has01; split <;> rfl) (by omega)
    rw [q1.1, q1.2, q2.1, q2.2, q3.2]
    have q4 : decide (Pk.numV (some (eI m.has01 ++ rest)) 1 = 1) = m.has := by
      have := q3.1
      unfold Mg.has01 at this ⊢
      cases hb : m.has <;> rw [hb] at this <;> simp at this ⊢ <;> omega
    rw [q4]
  rw [if_neg c2] at ht hT
  rw [if_neg (by omega), if_neg c2]
  by_cases c3 : m.kind = 3
  · rw [if_pos c3] at ht hT
    rw [if_pos (by omega), if_pos c3]
    simp only [Bool.and_eq_true] at ht
    subst hT
    simp only [List.append_assoc]
    have q1 := rd1 (rest := eI m.src ++ (eI m.len ++ rest)) ht.1 (by omega)
    have q2 := rd1 (rest := eI m.len ++ rest) ht.2.1 (by omega)
    have q3 := rd1 (rest := rest) ht.2.2 (by omega)
    rw [q1.1, q1.2, q2.1, q2.2, q3.1, q3.2]
  rw [if_neg c3] at ht hT
  rw [if_neg (by omega), if_neg c3]
  by_cases c4 : m.kind = 4
  · rw [if_pos c4] at ht hT
    rw [if_pos (by omega), if_pos c4]
    subst hT
    have q1 := rd1 (rest := rest) ht (by omega)
    rw [q1.1, q1.2]
  rw [if_neg c4] at ht hT
  rw [if_neg (by omega), if_neg c4]
  by_cases c5 : m.kind = 5
  · rw [if_pos c5] at ht hT
    rw [if_pos (by omega), if_pos c5]
    simp only [Bool.and_eq_true, decide_eq_true_eq] at ht
    subst hT
    simp only [List.append_assoc]
    have q1 := rd1 (rest := eI m.tot ++ (Pk.encB m.data ++ rest)) ht.1 (by omega)
    have q2 := rd1 (rest := Pk.encB m.data ++ rest) ht.2.1 (by omega)
    have q3 := byt_of_enc (x := m.data) (m := 64) (rest := rest) (by omega) (by omega)
    rw [q1.1, q1.2, q2.1, q2.2, q3.1, q3.2]
  rw [if_neg c5] at ht hT
  rw [if_neg (by omega), if_neg c5]
  by_cases c7 : m.kind = 7
  · rw [if_pos c7] at ht hT
    rw [if_pos (by omega), if_pos c7]
    simp only [Bool.and_eq_true] at ht
    subst hT
    simp only [List.append_assoc]
    have q1 := rd1 (rest := eI m.seq ++ (encN m.hav.length ++ (Pk.encs m.hav ++ (encN m.nee.length ++ (Pk.encs m.nee ++ rest))))) ht.1 (by omega)
    have q2 := rd1 (rest := encN m.hav.length ++ (Pk.encs m.hav ++ (encN m.nee.length ++ (Pk.encs m.nee ++ rest)))) ht.2.1 (by omega)
    have q3 : stF 7 (some (encN m.hav.length ++ (Pk.encs m.hav ++ (encN m.nee.length ++ (Pk.encs m.nee ++ rest))))) = _ := stF_enc m.hav 7 (encN m.nee.length ++ (Pk.encs m.nee ++ rest)) ht.2.2.1 (by omega)
    have q4 : stF 8 (some (encN m.nee.length ++ (Pk.encs m.nee ++ rest))) = _ := stF_enc m.nee 8 rest ht.2.2.2 (by omega)
    rw [q1.1, q1.2, q2.1, q2.2]
    rw [q3]
    simp only []
    rw [q4]
  rw [if_neg c7] at ht hT
  rw [if_neg (by omega), if_neg c7]
  by_cases c8 : m.kind = 8
  · rw [if_pos c8] at ht hT
    rw [if_pos (by omega), if_pos c8]
    simp only [Bool.and_eq_true] at ht
    subst hT
    simp only [List.append_assoc]
    have q1 := rd1 (rest := m.ent.enc ++ rest) ht.1 (by omega)
    rw [q1.1, q1.2, En.get_enc ht.2, En.read_enc ht.2]
  rw [if_neg c8] at ht hT
  rw [if_neg (by omega), if_neg c8]
  subst hT
  rfl
theorem Mg.bare_kind (m : Mg) : m.bare.kind = m.kind := by
  unfold Mg.bare; simp only []
  split; rfl
  split; rfl
  split; rfl
  split; rfl
  split; rfl
  split; rfl
  rfl
theorem Mg.ok_kind {m : Mg} (h : m.ok = true) : m.kind ≠ 0 := by
  intro h0
  unfold Mg.ok Mg.tailOk at h
  simp [h0] at h
theorem Mg.dec_enc {m : Mg} (h : m.ok = true) : Mg.dec m.enc = some m.bare := by
  have e := Mg.get_enc h []
  rw [List.append_nil] at e
  have hk : m.bare.kind ≠ 0 := by rw [Mg.bare_kind]; exact Mg.ok_kind h
  unfold Mg.dec
  rw [e, if_pos ⟨hk, rfl⟩]
end Go.Proofs.Ytmdkbmafkglhdaa

namespace Go.Proofs.Ytmdkbmafkglhdaa
open Go.RowKit
set_option linter.unusedVariables false
theorem step_append_BN {P : Program} {t e : TypeId} {z : Value} {bytes : Nat} {W w : World} (hT : CellT P t e z bytes) {ops : Array Oper} {o : Oper} {a : Act} {K : Act → World → Prop} {Q : Exit → Act → World → Prop} {E : Prop} (s x : Operand)
    (ho : o.op = .call { callee := .builtin .append, args := #[s, x], argTypes := #[t, t] }) (hg : o.guard = none)
    {A : Option Addr} {n c : Nat} {vs : List Value} (hs : a.eval s = .slice A n c) (hown : w.ownsRow W.heap.size e 1 (.slice A n c) n vs)
    {B : Nat} {A' : Option Addr} {m c' : Nat} {ws : List Value} (hx : a.eval x = .slice A' m c') (hr : Rd w B A' m ws) (h1 : ∀ u ∈ ws, u.oneCell' = true) {N : Nat} (hN : n + m = N) (hnm : N ≤ 1099511627776) (hby : bytes ≤ 64) (hB : Below W.heap.size W w)
    (h : ∀ A2 c2 w2, w2.ownsRow W.heap.size e 1 (.slice A2 N c2) N (vs ++ ws) → Below W.heap.size W w2 → w.grownBy w2 (Value.slice A n c).ownBlock → K (a.put o.dst (.slice A2 N c2)) w2) :
    if Region.wanted o (yielded ops a.tmps) = true then Oper.wp P o a w K Q else E := by
  subst hN
  exact step_append_cells hT s x ho hg hs hown hx hr h1 hnm hby hB h
theorem Rd.rowOther {w w' : World} {B g o n : Nat} {vs : List Value} {row : Option Nat} (h : Rd w B (some ⟨g, o, none⟩) n vs) (hg : w.grownBy w' row) (hne : ∀ k, row = some k → k ≠ g) : Rd w' w'.heap.size (some ⟨g, o, none⟩) n vs := by
  refine Rd.fit (B := w.heap.size) ⟨h.1, fun hn => ?_⟩
  obtain ⟨b', o', e, hb, hc⟩ := h.fit.2 hn
  injection e with e
  injection e with e1 e2
  subst e1 e2
  refine ⟨_, _, rfl, hb, fun i hi => ?_⟩
  rw [← hc i hi]
  exact World.cell?_of_block (hg.block _ hb (fun h => hne _ h.symm rfl))
end Go.Proofs.Ytmdkbmafkglhdaa

