/- MachBytes MachBytes2 -/
import Derived.Test.YtmdkbmafkglhdaaFT10
namespace Go.Proofs.Ytmdkbmafkglhdaa
set_option linter.unusedVariables false
def encQ (qs : List (List Nat)) : List Nat := qs.flatMap Pk.encB
/-- how many -/
def encN (n : Nat) : List Nat := Pk.enc (Pk.held (n : Int))
def En.enc (e : En) : List Nat := Pk.enc (Pk.held e.s) ++ (Pk.enc (Pk.held e.q) ++ (Pk.enc (Pk.held e.c.kind) ++ (Pk.enc (Pk.held e.c.who) ++ (Pk.encB e.c.key ++ (Pk.encB e.c.val ++ Pk.encB e.c.old)))))
theorem encQ_snoc (qs : List (List Nat)) (x : List Nat) : encQ (qs ++ [x]) = encQ qs ++ Pk.encB x := by simp [encQ]
theorem encB_length (x : List Nat) : (Pk.encB x).length ≤ x.length + 9 := by
  unfold Pk.encB; have := (Pk.enc_length x.length).2; simp; omega
theorem encN_length (n : Nat) : (encN n).length ≤ 9 := (Pk.enc_length _).2
/-- an entry that is read -/
def En.get (s : Pk.St) : En × Pk.St :=
  let s1 := Pk.numS s 1073741824
  let s2 := Pk.numS s1 1073741824
  let s3 := Pk.numS s2 1073741824
  let s4 := Pk.numS s3 1073741824
  let s5 := Pk.bytS s4 32
  let s6 := Pk.bytS s5 32
  (⟨Pk.numV s 1073741824, Pk.numV s1 1073741824, ⟨Pk.numV s2 1073741824, Pk.numV s3 1073741824, Pk.bytV s4 32, Pk.bytV s5 32, Pk.bytV s6 32⟩⟩, Pk.bytS s6 32)
def En.zero : En := ⟨0, 0, ⟨0, 0, [], [], []⟩⟩
def En.read (s : Pk.St) : En := if (En.get s).2 = none then En.zero else (En.get s).1
-- back
theorem num_of_enc {n : Nat} {m : Int} {rest : List Nat} (h : n ≤ Pk.top) (hm : n ≤ Pk.held m) : Pk.numV (some (Pk.enc n ++ rest)) m = n ∧ Pk.numS (some (Pk.enc n ++ rest)) m = some rest := Pk.numV_is (Pk.numN_enc h rest m hm)
theorem num_of_encI {z : Int} {m : Int} {rest : List Nat} (h0 : 0 ≤ z) (hm : z ≤ m) (ht : m ≤ 4611686018427387904) : (Pk.numV (some (Pk.enc (Pk.held z) ++ rest)) m : Int) = z ∧ Pk.numS (some (Pk.enc (Pk.held z) ++ rest)) m = some rest := by
  have e : (Pk.held z : Int) = z := by unfold Pk.held Pk.top; omega
  have h1 := num_of_enc (n := Pk.held z) (m := m) (rest := rest) (Pk.held_le z) (by unfold Pk.held Pk.top; omega)
  exact ⟨by rw [h1.1, e], h1.2⟩
theorem num_of_encN {n : Nat} {m : Int} {rest : List Nat} (hm : (n : Int) ≤ m) (ht : m ≤ 4611686018427387904) : Pk.numV (some (encN n ++ rest)) m = n ∧ Pk.numS (some (encN n ++ rest)) m = some rest := by
  have := num_of_encI (z := (n : Int)) (m := m) (rest := rest) (by omega) hm ht
  exact ⟨by have := this.1; unfold encN; omega, this.2⟩
theorem byt_of_enc {x : List Nat} {m : Int} {rest : List Nat} (h : (x.length : Int) ≤ m) (ht : m ≤ 1000) : Pk.bytV (some (Pk.encB x ++ rest)) m = x ∧ Pk.bytS (some (Pk.encB x ++ rest)) m = some rest :=
  Pk.bytV_is (Pk.bytN_enc x rest m (by unfold Pk.top; omega) (by unfold Pk.held Pk.top; omega))
end Go.Proofs.Ytmdkbmafkglhdaa

namespace Go.Proofs.Ytmdkbmafkglhdaa
set_option linter.unusedVariables false
/-- all that is left are bytes -/
def BytesSt (s : Pk.St) : Prop := ∀ l, s = some l → ∀ x ∈ l, x < 256
theorem numN_cases (s : Pk.St) (m : Int) : (Pk.numV s m = 0 ∧ Pk.numS s m = none) ∨ ∃ l, s = some l ∧ Pk.numV s m = (Pk.first l).1 ∧ Pk.numV s m ≤ Pk.held m ∧ Pk.numS s m = some (l.drop (Pk.first l).2) := by
  cases s with
  | none => left; exact ⟨rfl, rfl⟩
  | some l =>
    by_cases h : (Pk.first l).2 = 0 ∨ Pk.held m < (Pk.first l).1
    · left
      refine Pk.numV_no ?_
      show Pk.rNum l (Pk.held m) = none
      unfold Pk.rNum; rw [if_pos h]
    · right
      have := Pk.numV_is (s := some l) (m := m) (n := (Pk.first l).1) (l := l.drop (Pk.first l).2) (by show Pk.rNum l (Pk.held m) = _; unfold Pk.rNum; rw [if_neg h])
      refine ⟨l, rfl, this.1, ?_, this.2⟩
      rw [this.1]
      omega
theorem numV_le (s : Pk.St) {m : Int} (hm : 0 ≤ m) : (Pk.numV s m : Int) ≤ m := by
  have hh : (Pk.held m : Int) ≤ m := by unfold Pk.held Pk.top; omega
  rcases numN_cases s m with h | ⟨l, _, _, h, _⟩
  · rw [h.1]; exact hm
  · omega
theorem numS_bytes {s : Pk.St} (h : BytesSt s) (m : Int) : BytesSt (Pk.numS s m) := by
  rcases numN_cases s m with h1 | ⟨l, h1, _, _, h2⟩
  · rw [h1.2]; intro l hl; cases hl
  · rw [h2]
    intro l' hl'
    injection hl' with hl'
    subst hl'
    exact fun x hx => h l h1 x (List.mem_of_mem_drop hx)
theorem bytV_facts {s : Pk.St} (h : BytesSt s) {m : Int} (hm : 0 ≤ m) : ((Pk.bytV s m).length : Int) ≤ m ∧ (∀ x ∈ Pk.bytV s m, x < 256) ∧ BytesSt (Pk.bytS s m) := by
  have hn := numV_le s hm
  have hb := numS_bytes h m
  by_cases hl : ((Pk.numS s m).getD []).length < Pk.numV s m
  · obtain ⟨e1, e2⟩ := Pk.byt_no hl
    rw [e1, e2]
    exact ⟨by simpa using hm, by simp, fun l hl => by cases hl⟩
  · obtain ⟨e1, e2⟩ := Pk.byt_of hl
    rw [e1, e2]
    cases hs : Pk.numS s m with
    | none => exact ⟨by simpa using hm, by simp, fun l hl => by cases hl⟩
    | some l =>
      refine ⟨by simp only [Option.getD_some, List.length_take]; omega, fun x hx => hb l hs x (List.mem_of_mem_take (by simpa using hx)), ?_⟩
      intro l' hl'
      simp only [Option.map_some] at hl'
      injection hl' with hl'
      subst hl'
      exact fun x hx => hb l hs x (List.mem_of_mem_drop hx)
theorem En.read_fits {s : Pk.St} (h : BytesSt s) : (En.read s).c.Fits ∧ BytesSt (En.get s).2 := by
  have s1 := numS_bytes h 1073741824
  have s2 := numS_bytes s1 1073741824
  have s3 := numS_bytes s2 1073741824
  have s4 := numS_bytes s3 1073741824
  obtain ⟨a1, a2, a3⟩ := bytV_facts s4 (m := 32) (by omega)
  obtain ⟨b1, b2, b3⟩ := bytV_facts a3 (m := 32) (by omega)
  obtain ⟨c1, c2, c3⟩ := bytV_facts b3 (m := 32) (by omega)
  refine ⟨?_, c3⟩
  unfold En.read
  split
  · exact ⟨⟨by simp [En.zero], by simp [En.zero]⟩, ⟨by simp [En.zero], by simp [En.zero]⟩, ⟨by simp [En.zero], by simp [En.zero]⟩⟩
  · exact ⟨⟨by show (Pk.bytV _ 32).length ≤ 100; omega, a2⟩, ⟨by show (Pk.bytV _ 32).length ≤ 100; omega, b2⟩, ⟨by show (Pk.bytV _ 32).length ≤ 100; omega, c2⟩⟩
end Go.Proofs.Ytmdkbmafkglhdaa

