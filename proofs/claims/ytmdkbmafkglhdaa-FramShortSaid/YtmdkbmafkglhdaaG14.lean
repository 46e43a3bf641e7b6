/- MesgMath2 -/
import Derived.Test.YtmdkbmafkglhdaaG13
namespace Go.Proofs.Ytmdkbmafkglhdaa
open Go.RowKit
set_option linter.unusedVariables false
theorem encF_small (f : Nat) {x : Nat} (h : x < 128) : Pk.encF f x = [x] := by
  cases f with
  | zero => rfl
  | succ f => unfold Pk.encF; rw [if_pos h]
theorem encF_big (f : Nat) {n : Nat} (h : 128 ≤ n) : Pk.encF (f + 1) n = (n % 128 + 128) :: Pk.encF f (n / 128) := by
  show (if n < 128 then [n] else (n % 128 + 128) :: Pk.encF f (n / 128)) = _
  rw [if_neg (by omega)]
theorem dec_canon : ∀ (l : List Nat) (i acc : Nat), (∀ x ∈ l, x < 256) → (Pk.dec i acc l).2 ≠ 0 →
    ∃ n, Pk.dec i acc l = (acc + n * 128 ^ i, i + (Pk.encF (8 - i) n).length) ∧ l = Pk.encF (8 - i) n ++ l.drop (Pk.encF (8 - i) n).length ∧ (0 < i → 0 < n)
  | [], i, acc, _, h => by simp [Pk.dec] at h
  | x :: l, i, acc, hb, h => by
    unfold Pk.dec at h ⊢
    by_cases h9 : 9 ≤ i
    · simp [h9] at h
    rw [if_neg h9] at h ⊢
    by_cases hx : 128 ≤ x
    · rw [if_pos hx] at h ⊢
      obtain ⟨n, e1, e2, e3⟩ := dec_canon l (i + 1) (acc + x % 128 * 128 ^ i) (fun y hy => hb y (List.mem_cons_of_mem _ hy)) h
      have hx2 := hb x (by simp)
      have hn := e3 (by omega)
      by_cases h8 : i = 8
      · subst h8
        exfalso
        cases l with
        | nil => simp [Pk.dec] at h
        | cons y l => unfold Pk.dec at h; simp at h
      obtain ⟨f, hf⟩ : ∃ f, 8 - i = f + 1 := ⟨7 - i, by omega⟩
      have hf' : 8 - (i + 1) = f := by omega
      rw [hf'] at e1 e2
      have hN : 128 ≤ x % 128 + 128 * n := by omega
      have e4 : Pk.encF (8 - i) (x % 128 + 128 * n) = x :: Pk.encF f n := by
        rw [hf, encF_big f hN, show (x % 128 + 128 * n) % 128 + 128 = x by omega, show (x % 128 + 128 * n) / 128 = n by omega]
      refine ⟨x % 128 + 128 * n, ?_, ?_, fun _ => by omega⟩
      · rw [e1, e4, Nat.pow_succ, List.length_cons]
        congr 1
        · rw [Nat.add_mul, Nat.mul_comm 128 n, Nat.mul_assoc n 128, Nat.mul_comm 128 (128 ^ i)]; omega
        · omega
      · rw [e4]
        simp only [List.length_cons, List.drop_succ_cons, List.cons_append]
        rw [← e2]
    · rw [if_neg hx] at h ⊢
      by_cases h0 : x = 0 ∧ 0 < i
      · rw [if_pos h0] at h; simp at h
      rw [if_neg h0]
      refine ⟨x, ?_, ?_, fun hi => by omega⟩
      · rw [encF_small _ (by omega)]; rfl
      · rw [encF_small _ (by omega)]; rfl
theorem first_canon {l : List Nat} (hb : ∀ x ∈ l, x < 256) (h : (Pk.first l).2 ≠ 0) : l = Pk.enc (Pk.first l).1 ++ l.drop (Pk.first l).2 := by
  obtain ⟨n, e1, e2, _⟩ := dec_canon l 0 0 hb h
  have e1 : Pk.first l = (n, (Pk.enc n).length) := by
    show Pk.dec 0 0 l = _
    rw [e1]
    simp [Pk.enc]
  rw [e1]
  exact e2
theorem num_canon {s : Pk.St} {m : Int} {l' : List Nat} (hb : BytesSt s) (h : Pk.numS s m = some l') (h0 : 0 ≤ m) (hm : m ≤ 4611686018427387904) :
    s = some (eI (Pk.numV s m : Int) ++ l') ∧ wi m (Pk.numV s m : Int) = true := by
  have hle := numV_le s h0
  refine ⟨?_, wi_iff.2 ⟨by omega, hle⟩⟩
  rcases numN_cases s m with h1 | ⟨l, e, h1, h2, h3⟩
  · rw [h1.2] at h; cases h
  · rw [h3] at h
    injection h with h
    unfold eI
    rw [Pk.held_of (by unfold Pk.top; omega), h1, ← h, e]
    congr 1
    refine first_canon (hb l e) fun hz => ?_
    have hn : Pk.numS s m = none := by
      rw [e]; unfold Pk.numS Pk.numN Pk.rNum; simp [hz]
    rw [hn] at h3; cases h3
theorem num_bytes {s : Pk.St} {m : Int} (hb : BytesSt s) : BytesSt (Pk.numS s m) := numS_bytes hb m
theorem byt_canon {s : Pk.St} {m : Int} {l' : List Nat} (hb : BytesSt s) (h : Pk.bytS s m = some l') (h0 : 0 ≤ m) (hm : m ≤ 1000) :
    s = some (Pk.encB (Pk.bytV s m) ++ l') ∧ ((Pk.bytV s m).length : Int) ≤ m := by
  refine ⟨?_, (bytV_facts hb h0).1⟩
  by_cases hl : ((Pk.numS s m).getD []).length < Pk.numV s m
  · rw [(Pk.byt_no hl).2] at h; cases h
  · obtain ⟨e1, e2⟩ := Pk.byt_of hl
    rw [e2] at h
    cases hs : Pk.numS s m with
    | none => rw [hs] at h; cases h
    | some r =>
      rw [hs] at h e1 hl
      obtain ⟨k1, k2⟩ := num_canon hb hs h0 (by omega)
      simp only [Option.map_some] at h
      injection h with h
      simp only [Option.getD_some] at e1 hl
      have hlen : (Pk.bytV s m).length = Pk.numV s m := by rw [e1, List.length_take]; omega
      unfold eI at k1
      have hle := numV_le s h0
      rw [Pk.held_of (by unfold Pk.top; omega)] at k1
      conv => lhs; rw [k1]
      unfold Pk.encB
      rw [hlen, e1, List.append_assoc, ← h, List.take_append_drop]
theorem En.get_canon {s : Pk.St} {l' : List Nat} (hb : BytesSt s) (h : (En.get s).2 = some l') : s = some ((En.get s).1.enc ++ l') ∧ (En.get s).1.ok = true := by
  unfold En.get at h ⊢
  simp only [] at h ⊢
  have b1 := num_bytes (m := 1073741824) hb
  have b2 := num_bytes (m := 1073741824) b1
  have b3 := num_bytes (m := 1073741824) b2
  have b4 := num_bytes (m := 1073741824) b3
  have b5 := (bytV_facts b4 (m := 32) (by omega)).2.2
  have b6 := (bytV_facts b5 (m := 32) (by omega)).2.2
  obtain ⟨e7, o7⟩ := byt_canon b6 h (by omega) (by omega)
  obtain ⟨e6, o6⟩ := byt_canon b5 e7 (by omega) (by omega)
  obtain ⟨e5, o5⟩ := byt_canon b4 e6 (by omega) (by omega)
  obtain ⟨e4, o4⟩ := num_canon b3 e5 (by omega) (by omega)
  obtain ⟨e3, o3⟩ := num_canon b2 e4 (by omega) (by omega)
  obtain ⟨e2, o2⟩ := num_canon b1 e3 (by omega) (by omega)
  obtain ⟨e1, o1⟩ := num_canon hb e2 (by omega) (by omega)
  refine ⟨?_, ?_⟩
  · conv => lhs; rw [e1]
    unfold En.enc eI
    simp only [List.append_assoc]
  · unfold En.ok
    simp only [Bool.and_eq_true, decide_eq_true_eq]
    exact ⟨o1, o2, o3, o4, by omega, by omega, by omega⟩
end Go.Proofs.Ytmdkbmafkglhdaa

