/- MachBytes MachBytes2 -/
import Derived.Test.YtmekamgohonffaaBF24
namespace Go.Proofs.Ytmekamgohonffaa
set_option linter.unusedVariables false
/-- each ahead of the next -/
def chainB {α : Type} (lt : α → α → Bool) : List α → Bool
  | [] => true
  | [_] => true
  | a :: b :: r => lt a b && chainB lt (b :: r)
theorem chainB_pairwise {α : Type} {lt : α → α → Bool} (ht : ∀ {a b c}, lt a b = true → lt b c = true → lt a c = true) (l : List α) : chainB lt l = true ↔ l.Pairwise (fun a b => lt a b = true) := by
  induction l with
  | nil => simp [chainB]
  | cons a l ih =>
    cases l with
    | nil => simp [chainB]
    | cons b r =>
      simp only [chainB, Bool.and_eq_true]
      rw [ih, List.pairwise_cons (a := a)]
      constructor
      · rintro ⟨h1, h2⟩
        refine ⟨fun c hc => ?_, h2⟩
        rcases List.mem_cons.1 hc with rfl | hc
        · exact h1
        · exact ht h1 ((List.pairwise_cons.1 h2).1 c hc)
      · rintro ⟨h1, h2⟩
        exact ⟨h1 b (by simp), h2⟩
def encQ (qs : List (List Nat)) : List Nat := qs.flatMap Pk.encB
def encP (ps : List Pr) : List Nat := ps.flatMap fun p => Pk.encB p.1 ++ Pk.encB p.2
def encL1 (l : Ls) : List Nat := Pk.enc (Pk.held l.s) ++ (Pk.enc (Pk.held l.q) ++ (Pk.enc (Pk.held l.e) ++ (Pk.enc (Pk.held (l.n + 1)) ++ Pk.encB l.v)))
def encT (ls : List Ls) : List Nat := ls.flatMap encL1
/-- how many -/
def encN (n : Nat) : List Nat := Pk.enc (Pk.held (n : Int))
def Mc.enc (m : Mc) : List Nat := Pk.encB m.o.reg ++ (encN m.o.q.length ++ (encQ m.o.q ++ (encN m.o.lk.length ++ (Pk.encs m.o.lk ++ (encN m.o.mp.length ++ (encP m.o.mp ++ (encN m.t.length ++ encT m.t)))))))
def En.enc (e : En) : List Nat := Pk.enc (Pk.held e.s) ++ (Pk.enc (Pk.held e.q) ++ (Pk.enc (Pk.held e.c.kind) ++ (Pk.enc (Pk.held e.c.who) ++ (Pk.encB e.c.key ++ (Pk.encB e.c.val ++ Pk.encB e.c.old)))))
theorem encQ_snoc (qs : List (List Nat)) (x : List Nat) : encQ (qs ++ [x]) = encQ qs ++ Pk.encB x := by simp [encQ]
theorem encP_snoc (ps : List Pr) (p : Pr) : encP (ps ++ [p]) = encP ps ++ Pk.encB p.1 ++ Pk.encB p.2 := by simp [encP]
theorem encB_length (x : List Nat) : (Pk.encB x).length ≤ x.length + 9 := by
  unfold Pk.encB; have := (Pk.enc_length x.length).2; simp; omega
theorem encN_length (n : Nat) : (encN n).length ≤ 9 := (Pk.enc_length _).2
theorem encQ_length {qs : List (List Nat)} (h : ∀ x ∈ qs, x.length ≤ 16) : (encQ qs).length ≤ 25 * qs.length := by
  induction qs with
  | nil => simp [encQ]
  | cons x qs ih =>
    have h1 := ih fun y hy => h y (List.mem_cons_of_mem _ hy)
    have h2 := h x (by simp)
    have h3 := encB_length x
    unfold encQ at h1 ⊢
    rw [List.flatMap_cons, List.length_append, List.length_cons]; omega
theorem encP_length {ps : List Pr} (h : ∀ p ∈ ps, p.1.length ≤ 8 ∧ p.2.length ≤ 16) : (encP ps).length ≤ 42 * ps.length := by
  induction ps with
  | nil => simp [encP]
  | cons p ps ih =>
    have h1 := ih fun y hy => h y (List.mem_cons_of_mem _ hy)
    have h2 := h p (by simp)
    have h3 := encB_length p.1
    have h4 := encB_length p.2
    unfold encP at h1 ⊢
    rw [List.flatMap_cons, List.length_append, List.length_append, List.length_cons]; omega
theorem encT_length {ls : List Ls} (h : ∀ l ∈ ls, l.v.length ≤ 16) : (encT ls).length ≤ 61 * ls.length := by
  induction ls with
  | nil => simp [encT]
  | cons l ls ih =>
    have h1 := ih fun y hy => h y (List.mem_cons_of_mem _ hy)
    have h2 := h l (by simp)
    have h3 := encB_length l.v
    have k1 := (Pk.enc_length (Pk.held l.s)).2
    have k2 := (Pk.enc_length (Pk.held l.q)).2
    have k3 := (Pk.enc_length (Pk.held l.e)).2
    have k4 := (Pk.enc_length (Pk.held (l.n + 1))).2
    unfold encT encL1 at h1 ⊢
    rw [List.flatMap_cons, List.length_append, List.length_append, List.length_append, List.length_append, List.length_append, List.length_cons]; omega
/-- what is read -/
def getQ : Nat → Pk.St → List (List Nat) × Pk.St
  | 0, s => ([], s)
  | k + 1, s => (Pk.bytV s 16 :: (getQ k (Pk.bytS s 16)).1, (getQ k (Pk.bytS s 16)).2)
def getI : Nat → Pk.St → List Int × Pk.St
  | 0, s => ([], s)
  | k + 1, s => ((Pk.numV s 999 : Int) :: (getI k (Pk.numS s 999)).1, (getI k (Pk.numS s 999)).2)
def getP1 (s : Pk.St) : Pr × Pk.St := ((Pk.bytV s 8, Pk.bytV (Pk.bytS s 8) 16), Pk.bytS (Pk.bytS s 8) 16)
def getP : Nat → Pk.St → List Pr × Pk.St
  | 0, s => ([], s)
  | k + 1, s => ((getP1 s).1 :: (getP k (getP1 s).2).1, (getP k (getP1 s).2).2)
def getT1 (s : Pk.St) : Ls × Pk.St :=
  (⟨Pk.numV s 1073741824, Pk.numV (Pk.numS s 1073741824) 1073741824, Pk.numV (Pk.numS (Pk.numS s 1073741824) 1073741824) 10,
    Pk.bytV (Pk.numS (Pk.numS (Pk.numS (Pk.numS s 1073741824) 1073741824) 10) 1073741825) 16, (Pk.numV (Pk.numS (Pk.numS (Pk.numS s 1073741824) 1073741824) 10) 1073741825 : Int) - 1⟩,
   Pk.bytS (Pk.numS (Pk.numS (Pk.numS (Pk.numS s 1073741824) 1073741824) 10) 1073741825) 16)
def getT : Nat → Pk.St → List Ls × Pk.St
  | 0, s => ([], s)
  | k + 1, s => ((getT1 s).1 :: (getT k (getT1 s).2).1, (getT k (getT1 s).2).2)
def stQ (s : Pk.St) : List (List Nat) × Pk.St := getQ (Pk.numV s 8) (Pk.numS s 8)
def stI (s : Pk.St) : List Int × Pk.St := getI (Pk.numV s 5) (Pk.numS s 5)
def stP (s : Pk.St) : List Pr × Pk.St := getP (Pk.numV s 8) (Pk.numS s 8)
def stT (s : Pk.St) : List Ls × Pk.St := getT (Pk.numV s 8) (Pk.numS s 8)
def getO (s : Pk.St) : Ob × Pk.St :=
  (⟨Pk.bytV s 16, (stQ (Pk.bytS s 16)).1, (stI (stQ (Pk.bytS s 16)).2).1, (stP (stI (stQ (Pk.bytS s 16)).2).2).1⟩, (stP (stI (stQ (Pk.bytS s 16)).2).2).2)
def Mc.get (s : Pk.St) : Mc × Pk.St := (⟨(getO s).1, (stT (getO s).2).1⟩, (stT (getO s).2).2)
def okP (ps : List Pr) : Bool := chainB (fun p q => Mp.ltB p.1 q.1) ps
def okT (ls : List Ls) : Bool := ls.all (fun l => decide (Tb.named l.s l.q)) && chainB (fun a b => decide (a.s < b.s)) ls
def Mc.wf (m : Mc) : Bool := decide m.o.lk.Nodup && okP m.o.mp && okT m.t
/-- the machine of bytes, or none -/
def Mc.dec (l : List Nat) : Option Mc := if (Mc.get (some l)).1.wf = true ∧ (Mc.get (some l)).2 = some [] then some (Mc.get (some l)).1 else none
/-- an entry that is read -/
def En.get (s : Pk.St) : En × Pk.St :=
  let s1 := Pk.numS s 1073741824
  let s2 := Pk.numS s1 1073741824
  let s3 := Pk.numS s2 1073741824
  let s4 := Pk.numS s3 1073741824
  let s5 := Pk.bytS s4 32
  let s6 := Pk.bytS s5 32
  (⟨Pk.numV s 1073741824, Pk.numV s1 1073741824, ⟨Pk.numV s2 1073741824, Pk.numV s3 1073741824, Pk.bytV s4 32, Pk.bytV s5 32, Pk.bytV s6 32⟩⟩, Pk.bytS s6 32)
def En.zero : En := ⟨0, 0, ⟨0, 0, [], [], []⟩⟩
def En.read (s : Pk.St) : En := if (En.get s).2 = none then En.zero else (En.get s).1
-- back
theorem num_of_enc {n : Nat} {m : Int} {rest : List Nat} (h : n ≤ Pk.top) (hm : n ≤ Pk.held m) : Pk.numV (some (Pk.enc n ++ rest)) m = n ∧ Pk.numS (some (Pk.enc n ++ rest)) m = some rest := Pk.numV_is (Pk.numN_enc h rest m hm)
theorem num_of_encI {z : Int} {m : Int} {rest : List Nat} (h0 : 0 ≤ z) (hm : z ≤ m) (ht : m ≤ 4611686018427387904) : (Pk.numV (some (Pk.enc (Pk.held z) ++ rest)) m : Int) = z ∧ Pk.numS (some (Pk.enc (Pk.held z) ++ rest)) m = some rest := by
  have e : (Pk.held z : Int) = z := by unfold Pk.held Pk.top; omega
  have h1 := num_of_enc (n := Pk.held z) (m := m) (rest := rest) (Pk.held_le z) (by unfold Pk.held Pk.top; omega)
  exact ⟨by rw [h1.1, e], h1.2⟩
theorem num_of_encN {n : Nat} {m : Int} {rest : List Nat} (hm : (n : Int) ≤ m) (ht : m ≤ 4611686018427387904) : Pk.numV (some (encN n ++ rest)) m = n ∧ Pk.numS (some (encN n ++ rest)) m = some rest := by
  have := num_of_encI (z := (n : Int)) (m := m) (rest := rest) (by omega) hm ht
  exact ⟨by have := this.1; unfold encN; omega, this.2⟩
theorem byt_of_enc {x : List Nat} {m : Int} {rest : List Nat} (h : (x.length : Int) ≤ m) (ht : m ≤ 1000) : Pk.bytV (some (Pk.encB x ++ rest)) m = x ∧ Pk.bytS (some (Pk.encB x ++ rest)) m = some rest :=
  Pk.bytV_is (Pk.bytN_enc x rest m (by unfold Pk.top; omega) (by unfold Pk.held Pk.top; omega))
theorem getQ_enc (qs : List (List Nat)) (rest : List Nat) (h : ∀ x ∈ qs, x.length ≤ 16) : getQ qs.length (some (encQ qs ++ rest)) = (qs, some rest) := by
  induction qs with
  | nil => rfl
  | cons x qs ih =>
    have hb := byt_of_enc (x := x) (m := 16) (rest := encQ qs ++ rest) (by have := h x (by simp); omega) (by omega)
    have ih := ih fun y hy => h y (List.mem_cons_of_mem _ hy)
    rw [show encQ (x :: qs) ++ rest = Pk.encB x ++ (encQ qs ++ rest) by simp [encQ]]
    simp only [List.length_cons, getQ]
    rw [hb.1, hb.2, ih]
theorem getI_enc (zs : List Int) (rest : List Nat) (h : ∀ z ∈ zs, 0 ≤ z ∧ z ≤ 999) : getI zs.length (some (Pk.encs zs ++ rest)) = (zs, some rest) := by
  induction zs with
  | nil => rfl
  | cons z zs ih =>
    have hz := h z (by simp)
    have hb := num_of_encI (z := z) (m := 999) (rest := Pk.encs zs ++ rest) hz.1 hz.2 (by omega)
    have ih := ih fun y hy => h y (List.mem_cons_of_mem _ hy)
    rw [show Pk.encs (z :: zs) ++ rest = Pk.enc (Pk.held z) ++ (Pk.encs zs ++ rest) by simp [Pk.encs]]
    simp only [List.length_cons, getI]
    rw [hb.1, hb.2, ih]
theorem getP_enc (ps : List Pr) (rest : List Nat) (h : ∀ p ∈ ps, p.1.length ≤ 8 ∧ p.2.length ≤ 16) : getP ps.length (some (encP ps ++ rest)) = (ps, some rest) := by
  induction ps with
  | nil => rfl
  | cons p ps ih =>
    have hp := h p (by simp)
    have h1 := byt_of_enc (x := p.1) (m := 8) (rest := Pk.encB p.2 ++ (encP ps ++ rest)) (by omega) (by omega)
    have h2 := byt_of_enc (x := p.2) (m := 16) (rest := encP ps ++ rest) (by omega) (by omega)
    have ih := ih fun y hy => h y (List.mem_cons_of_mem _ hy)
    rw [show encP (p :: ps) ++ rest = Pk.encB p.1 ++ (Pk.encB p.2 ++ (encP ps ++ rest)) by simp [encP]]
    simp only [List.length_cons, getP, getP1]
    rw [h1.1, h1.2, h2.1, h2.2, ih]
theorem getT_enc (ls : List Ls) (rest : List Nat) (h : ∀ l ∈ ls, Tb.named l.s l.q ∧ l.v.length ≤ 16) (he : ∀ l ∈ ls, 0 ≤ l.e ∧ l.e ≤ 10 ∧ -1 ≤ l.n ∧ l.n ≤ 1073741824) : getT ls.length (some (encT ls ++ rest)) = (ls, some rest) := by
  induction ls with
  | nil => rfl
  | cons l ls ih =>
    obtain ⟨⟨hs1, hq1, hs2, hq2⟩, hv⟩ := h l (by simp)
    obtain ⟨he1, he2, hn1, hn2⟩ := he l (by simp)
    have ih := ih (fun y hy => h y (List.mem_cons_of_mem _ hy)) (fun y hy => he y (List.mem_cons_of_mem _ hy))
    have e : encT (l :: ls) ++ rest = Pk.enc (Pk.held l.s) ++ (Pk.enc (Pk.held l.q) ++ (Pk.enc (Pk.held l.e) ++ (Pk.enc (Pk.held (l.n + 1)) ++ (Pk.encB l.v ++ (encT ls ++ rest))))) := by simp [encT, encL1]
    have k1 := num_of_encI (z := l.s) (m := 1073741824) (rest := Pk.enc (Pk.held l.q) ++ (Pk.enc (Pk.held l.e) ++ (Pk.enc (Pk.held (l.n + 1)) ++ (Pk.encB l.v ++ (encT ls ++ rest))))) (by omega) hs2 (by omega)
    have k2 := num_of_encI (z := l.q) (m := 1073741824) (rest := Pk.enc (Pk.held l.e) ++ (Pk.enc (Pk.held (l.n + 1)) ++ (Pk.encB l.v ++ (encT ls ++ rest)))) (by omega) hq2 (by omega)
    have k3 := num_of_encI (z := l.e) (m := 10) (rest := Pk.enc (Pk.held (l.n + 1)) ++ (Pk.encB l.v ++ (encT ls ++ rest))) he1 he2 (by omega)
    have k4 := num_of_encI (z := l.n + 1) (m := 1073741825) (rest := Pk.encB l.v ++ (encT ls ++ rest)) (by omega) (by omega) (by omega)
    have k5 := byt_of_enc (x := l.v) (m := 16) (rest := encT ls ++ rest) (by omega) (by omega)
    rw [e]
    simp only [List.length_cons, getT, getT1]
    rw [k1.1, k1.2, k2.1, k2.2, k3.1, k3.2, k4.1, k4.2, k5.1, k5.2, ih]
    simp
theorem Mc.Ok.wf {m : Mc} (h : m.Ok) : m.wf = true := by
  unfold Mc.wf okP okT
  have hp : chainB (fun p q : Pr => Mp.ltB p.1 q.1) m.o.mp = true := (chainB_pairwise (lt := fun p q : Pr => Mp.ltB p.1 q.1) (fun h1 h2 => Mp.ltB_trans h1 h2) _).2 h.o.mp.rise
  rw [decide_eq_true h.o.lkn, hp]
  have h1 : chainB (fun a b : Ls => decide (a.s < b.s)) m.t = true := by
    rw [chainB_pairwise (by simp; intro a b c; omega)]
    exact h.t.rises.imp fun h => by simpa using h
  rw [h1]
  simp
  exact fun l hl => (h.t.each l hl).1
theorem Mc.get_enc {m : Mc} (h : m.Ok) (rest : List Nat) : Mc.get (some (m.enc ++ rest)) = (m, some rest) := by
  have e : m.enc ++ rest = Pk.encB m.o.reg ++ (encN m.o.q.length ++ (encQ m.o.q ++ (encN m.o.lk.length ++ (Pk.encs m.o.lk ++ (encN m.o.mp.length ++ (encP m.o.mp ++ (encN m.t.length ++ (encT m.t ++ rest)))))))) := by
    unfold Mc.enc; simp only [List.append_assoc]
  have k0 := byt_of_enc (x := m.o.reg) (m := 16) (rest := encN m.o.q.length ++ (encQ m.o.q ++ (encN m.o.lk.length ++ (Pk.encs m.o.lk ++ (encN m.o.mp.length ++ (encP m.o.mp ++ (encN m.t.length ++ (encT m.t ++ rest)))))))) (by have := h.o.reg; omega) (by omega)
  have k1 := num_of_encN (n := m.o.q.length) (m := 8) (rest := encQ m.o.q ++ (encN m.o.lk.length ++ (Pk.encs m.o.lk ++ (encN m.o.mp.length ++ (encP m.o.mp ++ (encN m.t.length ++ (encT m.t ++ rest))))))) (by have := h.o.ql; omega) (by omega)
  have k2 := num_of_encN (n := m.o.lk.length) (m := 5) (rest := Pk.encs m.o.lk ++ (encN m.o.mp.length ++ (encP m.o.mp ++ (encN m.t.length ++ (encT m.t ++ rest))))) (by have := h.o.lkl; omega) (by omega)
  have k3 := num_of_encN (n := m.o.mp.length) (m := 8) (rest := encP m.o.mp ++ (encN m.t.length ++ (encT m.t ++ rest))) (by have := h.o.mp.few; omega) (by omega)
  have k4 := num_of_encN (n := m.t.length) (m := 8) (rest := encT m.t ++ rest) (by have := h.t8; omega) (by omega)
  have g1 := getQ_enc m.o.q (encN m.o.lk.length ++ (Pk.encs m.o.lk ++ (encN m.o.mp.length ++ (encP m.o.mp ++ (encN m.t.length ++ (encT m.t ++ rest)))))) h.o.qv
  have g2 := getI_enc m.o.lk (encN m.o.mp.length ++ (encP m.o.mp ++ (encN m.t.length ++ (encT m.t ++ rest)))) h.lk
  have g3 := getP_enc m.o.mp (encN m.t.length ++ (encT m.t ++ rest)) h.o.mp.len
  have g4 := getT_enc m.t rest (fun l hl => ⟨(h.t.each l hl).1, (h.t.each l hl).2.1⟩) h.te
  rw [e]
  unfold Mc.get getO stQ stI stP stT
  rw [k0.1, k0.2, k1.1, k1.2, g1]
  simp only []
  rw [k2.1, k2.2, g2]
  simp only []
  rw [k3.1, k3.2, g3]
  simp only []
  rw [k4.1, k4.2, g4]
theorem Mc.dec_enc {m : Mc} (h : m.Ok) : Mc.dec m.enc = some m := by
  have e := Mc.get_enc h []
  rw [List.append_nil] at e
  unfold Mc.dec
  rw [e, if_pos ⟨h.wf, rfl⟩]
end Go.Proofs.Ytmekamgohonffaa

namespace Go.Proofs.Ytmekamgohonffaa
set_option linter.unusedVariables false
/-- all that is left are bytes -/
def BytesSt (s : Pk.St) : Prop := ∀ l, s = some l → ∀ x ∈ l, x < 256
theorem numN_cases (s : Pk.St) (m : Int) : (Pk.numV s m = 0 ∧ Pk.numS s m = none) ∨ ∃ l, s = some l ∧ Pk.numV s m = (Pk.first l).1 ∧ Pk.numV s m ≤ Pk.held m ∧ Pk.numS s m = some (l.drop (Pk.first l).2) := by
  cases s with
  | none => left; exact ⟨rfl, rfl⟩
  | some l =>
    by_cases h : (Pk.first l).2 = 0 ∨ Pk.held m < (Pk.first l).1
    · left
      refine Pk.numV_no ?_
      show Pk.rNum l (Pk.held m) = none
      unfold Pk.rNum; rw [if_pos h]
    · right
      have := Pk.numV_is (s := some l) (m := m) (n := (Pk.first l).1) (l := l.drop (Pk.first l).2) (by show Pk.rNum l (Pk.held m) = _; unfold Pk.rNum; rw [if_neg h])
      refine ⟨l, rfl, this.1, ?_, this.2⟩
      rw [this.1]
      omega
theorem numV_le (s : Pk.St) {m : Int} (hm : 0 ≤ m) : (Pk.numV s m : Int) ≤ m := by
  have hh : (Pk.held m : Int) ≤ m := by unfold Pk.held Pk.top; omega
  rcases numN_cases s m with h | ⟨l, _, _, h, _⟩
  · rw [h.1]; exact hm
  · omega
theorem numS_bytes {s : Pk.St} (h : BytesSt s) (m : Int) : BytesSt (Pk.numS s m) := by
  rcases numN_cases s m with h1 | ⟨l, h1, _, _, h2⟩
  · rw [h1.2]; intro l hl; cases hl
  · rw [h2]
    intro l' hl'
    injection hl' with hl'
    subst hl'
    exact fun x hx => h l h1 x (List.mem_of_mem_drop hx)
theorem bytV_facts {s : Pk.St} (h : BytesSt s) {m : Int} (hm : 0 ≤ m) : ((Pk.bytV s m).length : Int) ≤ m ∧ (∀ x ∈ Pk.bytV s m, x < 256) ∧ BytesSt (Pk.bytS s m) := by
  have hn := numV_le s hm
  have hb := numS_bytes h m
  by_cases hl : ((Pk.numS s m).getD []).length < Pk.numV s m
  · obtain ⟨e1, e2⟩ := Pk.byt_no hl
    rw [e1, e2]
    exact ⟨by simpa using hm, by simp, fun l hl => by cases hl⟩
  · obtain ⟨e1, e2⟩ := Pk.byt_of hl
    rw [e1, e2]
    cases hs : Pk.numS s m with
    | none => exact ⟨by simpa using hm, by simp, fun l hl => by cases hl⟩
    | some l =>
      refine ⟨by simp only [Option.getD_some, List.length_take]; omega, fun x hx => hb l hs x (List.mem_of_mem_take (by simpa using hx)), ?_⟩
      intro l' hl'
      simp only [Option.map_some] at hl'
      injection hl' with hl'
      subst hl'
      exact fun x hx => hb l hs x (List.mem_of_mem_drop hx)
theorem getQ_facts (k : Nat) {s : Pk.St} (h : BytesSt s) : (getQ k s).1.length = k ∧ (∀ x ∈ (getQ k s).1, x.length ≤ 16 ∧ ∀ y ∈ x, y < 256) ∧ BytesSt (getQ k s).2 := by
  induction k generalizing s with
  | zero => exact ⟨rfl, fun x hx => (by cases hx), h⟩
  | succ k ih =>
    obtain ⟨b1, b2, b3⟩ := bytV_facts h (m := 16) (by omega)
    obtain ⟨i1, i2, i3⟩ := ih b3
    refine ⟨by simp only [getQ, List.length_cons, i1], fun x hx => ?_, i3⟩
    simp only [getQ] at hx
    rcases List.mem_cons.1 hx with rfl | hx
    · exact ⟨by omega, b2⟩
    · exact i2 x hx
theorem getI_facts (k : Nat) {s : Pk.St} (h : BytesSt s) : (getI k s).1.length = k ∧ (∀ z ∈ (getI k s).1, 0 ≤ z ∧ z ≤ 999) ∧ BytesSt (getI k s).2 := by
  induction k generalizing s with
  | zero => exact ⟨rfl, fun x hx => (by cases hx), h⟩
  | succ k ih =>
    have b1 := numV_le s (m := 999) (by omega)
    obtain ⟨i1, i2, i3⟩ := ih (numS_bytes h 999)
    refine ⟨by simp only [getI, List.length_cons, i1], fun x hx => ?_, i3⟩
    simp only [getI] at hx
    rcases List.mem_cons.1 hx with rfl | hx
    · omega
    · exact i2 x hx
theorem getP_facts (k : Nat) {s : Pk.St} (h : BytesSt s) : (getP k s).1.length = k ∧ (∀ p ∈ (getP k s).1, (p.1.length ≤ 8 ∧ p.2.length ≤ 16) ∧ (∀ y ∈ p.1, y < 256) ∧ ∀ y ∈ p.2, y < 256) ∧ BytesSt (getP k s).2 := by
  induction k generalizing s with
  | zero => exact ⟨rfl, fun x hx => (by cases hx), h⟩
  | succ k ih =>
    obtain ⟨b1, b2, b3⟩ := bytV_facts h (m := 8) (by omega)
    obtain ⟨c1, c2, c3⟩ := bytV_facts b3 (m := 16) (by omega)
    obtain ⟨i1, i2, i3⟩ := ih c3
    refine ⟨by simp only [getP, getP1, List.length_cons, i1], fun x hx => ?_, i3⟩
    simp only [getP] at hx
    rcases List.mem_cons.1 hx with rfl | hx
    · simp only [getP1]
      exact ⟨⟨by omega, by omega⟩, b2, c2⟩
    · exact i2 x hx
theorem getT_facts (k : Nat) {s : Pk.St} (h : BytesSt s) : (getT k s).1.length = k ∧ (∀ l ∈ (getT k s).1, (0 ≤ l.s ∧ l.s ≤ 1073741824 ∧ 0 ≤ l.q ∧ l.q ≤ 1073741824) ∧ (0 ≤ l.e ∧ l.e ≤ 10 ∧ -1 ≤ l.n ∧ l.n ≤ 1073741824) ∧ l.v.length ≤ 16 ∧ ∀ y ∈ l.v, y < 256) ∧ BytesSt (getT k s).2 := by
  induction k generalizing s with
  | zero => exact ⟨rfl, fun x hx => (by cases hx), h⟩
  | succ k ih =>
    have n1 := numV_le s (m := 1073741824) (by omega)
    have s1 := numS_bytes h 1073741824
    have n2 := numV_le (Pk.numS s 1073741824) (m := 1073741824) (by omega)
    have s2 := numS_bytes s1 1073741824
    have n3 := numV_le (Pk.numS (Pk.numS s 1073741824) 1073741824) (m := 10) (by omega)
    have s3 := numS_bytes s2 10
    have n4 := numV_le (Pk.numS (Pk.numS (Pk.numS s 1073741824) 1073741824) 10) (m := 1073741825) (by omega)
    have s4 := numS_bytes s3 1073741825
    obtain ⟨c1, c2, c3⟩ := bytV_facts s4 (m := 16) (by omega)
    obtain ⟨i1, i2, i3⟩ := ih c3
    refine ⟨by simp only [getT, getT1, List.length_cons, i1], fun x hx => ?_, i3⟩
    simp only [getT] at hx
    rcases List.mem_cons.1 hx with rfl | hx
    · simp only [getT1]
      exact ⟨⟨by omega, by omega, by omega, by omega⟩, ⟨by omega, by omega, by omega, by omega⟩, by omega, c2⟩
    · exact i2 x hx
/-- what is read, but for its order -/
structure Mc.Near (m : Mc) : Prop where
  reg : m.o.reg.length ≤ 16 ∧ ∀ x ∈ m.o.reg, x < 256
  ql : m.o.q.length ≤ 8
  q : ∀ x ∈ m.o.q, x.length ≤ 16 ∧ ∀ y ∈ x, y < 256
  ll : m.o.lk.length ≤ 5
  lk : ∀ z ∈ m.o.lk, 0 ≤ z ∧ z ≤ 999
  ml : m.o.mp.length ≤ 8
  mp : ∀ p ∈ m.o.mp, (p.1.length ≤ 8 ∧ p.2.length ≤ 16) ∧ (∀ y ∈ p.1, y < 256) ∧ ∀ y ∈ p.2, y < 256
  tl : m.t.length ≤ 8
  t : ∀ l ∈ m.t, (0 ≤ l.s ∧ l.s ≤ 1073741824 ∧ 0 ≤ l.q ∧ l.q ≤ 1073741824) ∧ (0 ≤ l.e ∧ l.e ≤ 10 ∧ -1 ≤ l.n ∧ l.n ≤ 1073741824) ∧ l.v.length ≤ 16 ∧ ∀ y ∈ l.v, y < 256
theorem Mc.get_near {s : Pk.St} (h : BytesSt s) : (Mc.get s).1.Near := by
  obtain ⟨a1, a2, a3⟩ := bytV_facts h (m := 16) (by omega)
  have n1 := numV_le (Pk.bytS s 16) (m := 8) (by omega)
  obtain ⟨q1, q2, q3⟩ := getQ_facts (Pk.numV (Pk.bytS s 16) 8) (numS_bytes a3 8)
  have n2 := numV_le (stQ (Pk.bytS s 16)).2 (m := 5) (by omega)
  obtain ⟨i1, i2, i3⟩ := getI_facts (Pk.numV (stQ (Pk.bytS s 16)).2 5) (numS_bytes (s := (stQ (Pk.bytS s 16)).2) q3 5)
  have n3 := numV_le (stI (stQ (Pk.bytS s 16)).2).2 (m := 8) (by omega)
  obtain ⟨p1, p2, p3⟩ := getP_facts (Pk.numV (stI (stQ (Pk.bytS s 16)).2).2 8) (numS_bytes (s := (stI (stQ (Pk.bytS s 16)).2).2) i3 8)
  have n4 := numV_le (stP (stI (stQ (Pk.bytS s 16)).2).2).2 (m := 8) (by omega)
  obtain ⟨t1, t2, t3⟩ := getT_facts (Pk.numV (stP (stI (stQ (Pk.bytS s 16)).2).2).2 8) (numS_bytes (s := (stP (stI (stQ (Pk.bytS s 16)).2).2).2) p3 8)
  exact ⟨⟨by show (Pk.bytV s 16).length ≤ 16; omega, a2⟩, by show (stQ (Pk.bytS s 16)).1.length ≤ 8; unfold stQ; omega, q2, by show (stI (stQ (Pk.bytS s 16)).2).1.length ≤ 5; unfold stI at *; omega, i2, by show (stP (stI (stQ (Pk.bytS s 16)).2).2).1.length ≤ 8; unfold stP at *; omega, p2, by show (stT (stP (stI (stQ (Pk.bytS s 16)).2).2).2).1.length ≤ 8; unfold stT at *; omega, t2⟩
end Go.Proofs.Ytmekamgohonffaa

