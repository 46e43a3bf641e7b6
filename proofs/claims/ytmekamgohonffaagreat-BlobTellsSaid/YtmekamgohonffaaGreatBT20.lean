/- MesgMath BlobMath -/
import Derived.Test.YtmekamgohonffaaGreatBT15
import Derived.Test.YtmekamgohonffaaGreatBT17
import Derived.Test.YtmekamgohonffaaGreatBT19
namespace Go.Proofs.YtmekamgohonffaaGreat
open Go.RowKit
set_option linter.unusedVariables false
def wi (m z : Int) : Bool := decide (0 <= z) && decide (z <= m)
theorem wi_iff {m z : Int} : wi m z = true ↔ 0 <= z /\ z <= m := by unfold wi; simp
def En.ok (e : En) : Bool := wi 1073741824 e.s && (wi 1073741824 e.q && (wi 1073741824 e.c.kind && (wi 1073741824 e.c.who && (decide (e.c.key.length <= 32) && (decide (e.c.val.length <= 32) && decide (e.c.old.length <= 32))))))
def eI (z : Int) : List Nat := Pk.enc (Pk.held z)
theorem rd1 {z m : Int} {rest : List Nat} (h : wi m z = true) (ht : m <= 4611686018427387904) : (Pk.numV (some (eI z ++ rest)) m : Int) = z /\ Pk.numS (some (eI z ++ rest)) m = some rest :=
 num_of_encI (wi_iff.1 h).1 (wi_iff.1 h).2 ht
theorem En.get_enc {e : En} (h : e.ok = true) (rest : List Nat) : En.get (some (e.enc ++ rest)) = (e, some rest) := by
 unfold En.ok at h
 simp only [Bool.and_eq_true, decide_eq_true_eq] at h
 obtain ⟨h1, h2, h3, h4, h5, h6, h7⟩ := h
 have e0 : e.enc ++ rest = eI e.s ++ (eI e.q ++ (eI e.c.kind ++ (eI e.c.who ++ (Pk.encB e.c.key ++ (Pk.encB e.c.val ++ (Pk.encB e.c.old ++ rest)))))) := by
  unfold En.enc eI; simp only [List.append_assoc]
 have k1 := rd1 (rest := eI e.q ++ (eI e.c.kind ++ (eI e.c.who ++ (Pk.encB e.c.key ++ (Pk.encB e.c.val ++ (Pk.encB e.c.old ++ rest)))))) h1 (by omega)
 have k2 := rd1 (rest := eI e.c.kind ++ (eI e.c.who ++ (Pk.encB e.c.key ++ (Pk.encB e.c.val ++ (Pk.encB e.c.old ++ rest))))) h2 (by omega)
 have k3 := rd1 (rest := eI e.c.who ++ (Pk.encB e.c.key ++ (Pk.encB e.c.val ++ (Pk.encB e.c.old ++ rest)))) h3 (by omega)
 have k4 := rd1 (rest := Pk.encB e.c.key ++ (Pk.encB e.c.val ++ (Pk.encB e.c.old ++ rest))) h4 (by omega)
 have k5 := byt_of_enc (x := e.c.key) (m := 32) (rest := Pk.encB e.c.val ++ (Pk.encB e.c.old ++ rest)) (by omega) (by omega)
 have k6 := byt_of_enc (x := e.c.val) (m := 32) (rest := Pk.encB e.c.old ++ rest) (by omega) (by omega)
 have k7 := byt_of_enc (x := e.c.old) (m := 32) (rest := rest) (by omega) (by omega)
 rw [e0]
 unfold En.get
 simp only []
 rw [k1.1, k1.2, k2.1, k2.2, k3.1, k3.2, k4.1, k4.2, k5.1, k5.2, k6.1, k6.2, k7.1, k7.2]
theorem En.read_enc {e : En} (h : e.ok = true) (rest : List Nat) : En.read (some (e.enc ++ rest)) = e := by
 unfold En.read
 rw [En.get_enc h]
 simp
structure Sb where
 pos : Int
 m : Mc
 rest : List En
def Sb.zero : Sb := ⟨0, Mc.zero, []⟩
def encE (es : List En) : List Nat := es.flatMap En.enc
theorem encE_snoc (es : List En) (e : En) : encE (es ++ [e]) = encE es ++ e.enc := by simp [encE]
def Sb.body (s : Sb) : List Nat := Pk.enc (Pk.held s.pos) ++ (Pk.encB s.m.enc ++ (encN s.rest.length ++ encE s.rest))
def Sb.enc (s : Sb) : List Nat := Fr.lay s.body
def getE : Nat -> Pk.St -> List En × Pk.St
 | 0, s => ([], s)
 | k + 1, s => (En.read s :: (getE k (En.get s).2).1, (getE k (En.get s).2).2)
theorem getE_len : ∀ (k : Nat) (s : Pk.St), (getE k s).1.length = k
 | 0, _ => rfl
 | k + 1, s => by simp only [getE, List.length_cons, getE_len k]
theorem getE_facts : ∀ (k : Nat) {s : Pk.St}, BytesSt s -> (∀ e ∈ (getE k s).1, e.c.Fits) /\ BytesSt (getE k s).2
 | 0, s, h => ⟨fun e he => (by cases he), h⟩
 | k + 1, s, h => by
   have h1 := En.read_fits h
   have h2 := getE_facts k h1.2
   refine ⟨fun e he => ?_, h2.2⟩
   simp only [getE] at he
   rcases List.mem_cons.1 he with rfl | he
   · exact h1.1
   · exact h2.1 e he
theorem getE_enc : ∀ (es : List En) (rest : List Nat), (∀ e ∈ es, e.ok = true) -> getE es.length (some (encE es ++ rest)) = (es, some rest)
 | [], rest, _ => rfl
 | e :: es, rest, h => by
   have h1 := h e (by simp)
   have ih := getE_enc es rest (fun x hx => h x (List.mem_cons_of_mem _ hx))
   have e1 : encE (e :: es) ++ rest = e.enc ++ (encE es ++ rest) := by simp [encE]
   simp only [List.length_cons, getE]
   rw [e1, En.get_enc h1, En.read_enc h1]
   simp only [ih]
namespace Sb
def st0 (l : List Nat) : Pk.St := some ((Fr.unf l).getD [])
def pos0 (l : List Nat) : Nat := Pk.numV (st0 l) 1099511627776
def st1 (l : List Nat) : Pk.St := Pk.numS (st0 l) 1099511627776
def mb (l : List Nat) : List Nat := Pk.bytV (st1 l) 1073741824
def st2 (l : List Nat) : Pk.St := Pk.bytS (st1 l) 1073741824
def n0 (l : List Nat) : Nat := Pk.numV (st2 l) 64
def st3 (l : List Nat) : Pk.St := Pk.numS (st2 l) 64
def es0 (l : List Nat) : List En × Pk.St := getE (n0 l) (st3 l)
def good (l : List Nat) : Bool := (Fr.unf l).isSome && ((Mc.dec (mb l)).isSome && (decide ((es0 l).2 = some []) && decide ((pos0 l : Int) <= 549755813888 - (n0 l : Int))))
def dec (l : List Nat) : Option Sb := if good l = true then some ⟨pos0 l, (Mc.dec (mb l)).getD Mc.zero, (es0 l).1⟩ else none
end Sb
theorem Sb.n0_le (l : List Nat) : Sb.n0 l <= 64 := by
 have := numV_le (Sb.st2 l) (m := 64) (by decide)
 unfold Sb.n0; omega
structure Sb.Ok (s : Sb) : Prop where
 p0 : 0 <= s.pos
 m : s.m.Ok
 n : s.rest.length <= 64
 p1 : s.pos + s.rest.length <= 549755813888
 e : ∀ e ∈ s.rest, e.ok = true
theorem Sb.body_parts {s : Sb} (h : s.Ok) (hlen : s.m.enc.length <= 1073741824) {l : List Nat} (hu : Fr.unf l = some s.body) :
 Sb.pos0 l = s.pos.toNat /\ Sb.mb l = s.m.enc /\ Sb.n0 l = s.rest.length /\ Sb.es0 l = (s.rest, some []) := by
 have k0 := num_of_encI (z := s.pos) (m := 1099511627776) (rest := Pk.encB s.m.enc ++ (encN s.rest.length ++ encE s.rest)) h.p0 (by have := h.p1; omega) (by omega)
 have k1 : Pk.bytV (some (Pk.encB s.m.enc ++ (encN s.rest.length ++ encE s.rest))) 1073741824 = s.m.enc /\ Pk.bytS (some (Pk.encB s.m.enc ++ (encN s.rest.length ++ encE s.rest))) 1073741824 = some (encN s.rest.length ++ encE s.rest) :=
  Pk.bytV_is (Pk.bytN_enc _ _ _ (by unfold Pk.top; omega) (by unfold Pk.held Pk.top; omega))
 have k2 := num_of_encN (n := s.rest.length) (m := 64) (rest := encE s.rest) (by have := h.n; omega) (by omega)
 have k3 := getE_enc s.rest [] h.e
 rw [List.append_nil] at k3
 have e0 : Sb.st0 l = some (Pk.enc (Pk.held s.pos) ++ (Pk.encB s.m.enc ++ (encN s.rest.length ++ encE s.rest))) := by unfold Sb.st0; rw [hu]; rfl
 have e1 : Sb.st1 l = some (Pk.encB s.m.enc ++ (encN s.rest.length ++ encE s.rest)) := by unfold Sb.st1; rw [e0, k0.2]
 have e2 : Sb.st2 l = some (encN s.rest.length ++ encE s.rest) := by unfold Sb.st2; rw [e1, k1.2]
 have e3 : Sb.n0 l = s.rest.length := by unfold Sb.n0; rw [e2, k2.1]
 have e4 : Sb.st3 l = some (encE s.rest) := by unfold Sb.st3; rw [e2, k2.2]
 refine ⟨?_, by unfold Sb.mb; rw [e1, k1.1], e3, by unfold Sb.es0; rw [e3, e4, k3]⟩
 unfold Sb.pos0
 rw [e0]
 have := k0.1
 omega
theorem Sb.dec_enc {s : Sb} (h : s.Ok) (hlen : s.m.enc.length <= 1073741824) : Sb.dec s.enc = some s := by
 have hu : Fr.unf s.enc = some s.body := Fr.unf_lay _
 obtain ⟨h1, h2, h3, h4⟩ := Sb.body_parts h hlen hu
 have hg : Sb.good s.enc = true := by
  unfold Sb.good
  rw [hu, h2, Mc.dec_enc h.m, h4, h1, h3]
  have := h.p0; have := h.p1
  simp
  omega
 unfold Sb.dec
 rw [if_pos hg, h1, h2, Mc.dec_enc h.m, h4]
 rcases s with ⟨p, m, r⟩
 have := h.p0
 simp only at this |-
 congr 2
 simp only [Int.toNat_of_nonneg this]
theorem Sb.st0_bytes {l : List Nat} (hb : ∀ x ∈ l, x < 256) : BytesSt (Sb.st0 l) := by
 intro x hx y hy
 unfold Sb.st0 at hx
 injection hx with hx
 subst hx
 cases hu : Fr.unf l with
 | none => rw [hu] at hy; cases hy
 | some z =>
   rw [hu] at hy
   obtain ⟨rfl, _⟩ := Fr.unf_is hu
   exact hb y (List.mem_of_mem_drop hy)
theorem Sb.read_facts {l : List Nat} (hb : ∀ x ∈ l, x < 256) : ((Sb.mb l).length : Int) <= 1073741824 /\ (∀ x ∈ Sb.mb l, x < 256) /\ (∀ e ∈ (Sb.es0 l).1, e.c.Fits) /\ BytesSt (Sb.st3 l) /\ ((Mc.dec (Sb.mb l)).getD Mc.zero).Ok := by
 have h0 := Sb.st0_bytes hb
 have h1 : BytesSt (Sb.st1 l) := numS_bytes h0 _
 have h2 := bytV_facts h1 (m := 1073741824) (by decide)
 have h3 : BytesSt (Sb.st3 l) := numS_bytes h2.2.2 _
 exact ⟨h2.1, h2.2.1, (getE_facts _ h3).1, h3, Mc.dec_okD h2.2.1⟩
end Go.Proofs.YtmekamgohonffaaGreat
