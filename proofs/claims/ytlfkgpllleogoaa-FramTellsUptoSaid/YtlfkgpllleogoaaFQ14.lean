/- MesgMath2 MesgKit MachPutE AppKit MsgRow -/
import Derived.Test.YtlfkgpllleogoaaFQ05
import Derived.Test.YtlfkgpllleogoaaFQ07
import Derived.Test.YtlfkgpllleogoaaFQ10
import Derived.Test.YtlfkgpllleogoaaFQ11
import Derived.Test.YtlfkgpllleogoaaFQ13
import Derived.WideShapes
namespace Go.Proofs.Ytlfkgpllleogoaa
open Go.RowKit
set_option linter.unusedVariables false
theorem encF_small (f : Nat) {x : Nat} (h : x < 128) : Pk.encF f x = [x] := by
  cases f with
  | zero => rfl
  | succ f => unfold Pk.encF; rw [if_pos h]
theorem encF_big (f : Nat) {n : Nat} (h : 128 ≤ n) : Pk.encF (f + 1) n = (n % 128 + 128) :: Pk.encF f (n / 128) := by
  show (if n < 128 then [n] else (n % 128 + 128) :: Pk.encF f (n / 128)) = _
  rw [if_neg (by omega)]
theorem dec_canon : ∀ (l : List Nat) (i acc : Nat), (∀ x ∈ l, x < 256) → (Pk.dec i acc l).2 ≠ 0 →
    ∃ n, Pk.dec i acc l = (acc + n * 128 ^ i, i + (Pk.encF (8 - i) n).length) ∧ l = Pk.encF (8 - i) n ++ l.drop (Pk.encF (8 - i) n).length ∧ (0 < i → 0 < n)
  | [], i, acc, _, h => by simp [Pk.dec] at h
  | x :: l, i, acc, hb, h => by
    unfold Pk.dec at h ⊢
    by_cases h9 : 9 ≤ i
    · simp [h9] at h
    rw [if_neg h9] at h ⊢
    by_cases hx : 128 ≤ x
    · rw [if_pos hx] at h ⊢
      obtain ⟨n, e1, e2, e3⟩ := dec_canon l (i + 1) (acc + x % 128 * 128 ^ i) (fun y hy => hb y (List.mem_cons_of_mem _ hy)) h
      have hx2 := hb x (by simp)
      have hn := e3 (by omega)
      by_cases h8 : i = 8
      · subst h8
        exfalso
        cases l with
        | nil => simp [Pk.dec] at h
        | cons y l => unfold Pk.dec at h; simp at h
      obtain ⟨f, hf⟩ : ∃ f, 8 - i = f + 1 := ⟨7 - i, by omega⟩
      have hf' : 8 - (i + 1) = f := by omega
      rw [hf'] at e1 e2
      have hN : 128 ≤ x % 128 + 128 * n := by omega
      have e4 : Pk.encF (8 - i) (x % 128 + 128 * n) = x :: Pk.encF f n := by
        rw [hf, encF_big f hN, show (x % 128 + 128 * n) % 128 + 128 = x by omega, show (x % 128 + 128 * n) / 128 = n by omega]
      refine ⟨x % 128 + 128 * n, ?_, ?_, fun _ => by omega⟩
      · rw [e1, e4, Nat.pow_succ, List.length_cons]
        congr 1
        · rw [Nat.add_mul, Nat.mul_comm 128 n, Nat.mul_assoc n 128, Nat.mul_comm 128 (128 ^ i)]; omega
        · omega
      · rw [e4]
        simp only [List.length_cons, List.drop_succ_cons, List.cons_append]
        rw [← e2]
    · rw [if_neg hx] at h ⊢
      by_cases h0 : x = 0 ∧ 0 < i
      · rw [if_pos h0] at h; simp at h
      rw [if_neg h0]
      refine ⟨x, ?_, ?_, fun hi => by omega⟩
      · rw [encF_small _ (by omega)]; rfl
      · rw [encF_small _ (by omega)]; rfl
theorem first_canon {l : List Nat} (hb : ∀ x ∈ l, x < 256) (h : (Pk.first l).2 ≠ 0) : l = Pk.enc (Pk.first l).1 ++ l.drop (Pk.first l).2 := by
  obtain ⟨n, e1, e2, _⟩ := dec_canon l 0 0 hb h
  have e1 : Pk.first l = (n, (Pk.enc n).length) := by
    show Pk.dec 0 0 l = _
    rw [e1]
    simp [Pk.enc]
  rw [e1]
  exact e2
theorem num_canon {s : Pk.St} {m : Int} {l' : List Nat} (hb : BytesSt s) (h : Pk.numS s m = some l') (h0 : 0 ≤ m) (hm : m ≤ 4611686018427387904) :
    s = some (eI (Pk.numV s m : Int) ++ l') ∧ wi m (Pk.numV s m : Int) = true := by
  have hle := numV_le s h0
  refine ⟨?_, wi_iff.2 ⟨by omega, hle⟩⟩
  rcases numN_cases s m with h1 | ⟨l, e, h1, h2, h3⟩
  · rw [h1.2] at h; cases h
  · rw [h3] at h
    injection h with h
    unfold eI
    rw [Pk.held_of (by unfold Pk.top; omega), h1, ← h, e]
    congr 1
    refine first_canon (hb l e) fun hz => ?_
    have hn : Pk.numS s m = none := by
      rw [e]; unfold Pk.numS Pk.numN Pk.rNum; simp [hz]
    rw [hn] at h3; cases h3
theorem num_bytes {s : Pk.St} {m : Int} (hb : BytesSt s) : BytesSt (Pk.numS s m) := numS_bytes hb m
theorem byt_canon {s : Pk.St} {m : Int} {l' : List Nat} (hb : BytesSt s) (h : Pk.bytS s m = some l') (h0 : 0 ≤ m) (hm : m ≤ 1000) :
    s = some (Pk.encB (Pk.bytV s m) ++ l') ∧ ((Pk.bytV s m).length : Int) ≤ m := by
  refine ⟨?_, (bytV_facts hb h0).1⟩
  by_cases hl : ((Pk.numS s m).getD []).length < Pk.numV s m
  · rw [(Pk.byt_no hl).2] at h; cases h
  · obtain ⟨e1, e2⟩ := Pk.byt_of hl
    rw [e2] at h
    cases hs : Pk.numS s m with
    | none => rw [hs] at h; cases h
    | some r =>
      rw [hs] at h e1 hl
      obtain ⟨k1, k2⟩ := num_canon hb hs h0 (by omega)
      simp only [Option.map_some] at h
      injection h with h
      simp only [Option.getD_some] at e1 hl
      have hlen : (Pk.bytV s m).length = Pk.numV s m := by rw [e1, List.length_take]; omega
      unfold eI at k1
      have hle := numV_le s h0
      rw [Pk.held_of (by unfold Pk.top; omega)] at k1
      conv => lhs; rw [k1]
      unfold Pk.encB
      rw [hlen, e1, List.append_assoc, ← h, List.take_append_drop]
theorem getF_canon : ∀ (k : Nat) {s : Pk.St} {l' : List Nat}, BytesSt s → (getF k s).2 = some l' → s = some (Pk.encs (getF k s).1 ++ l') ∧ (getF k s).1.all (wi 1099511627776) = true ∧ (getF k s).1.length = k
  | 0, s, l', hb, h => ⟨h, rfl, rfl⟩
  | k + 1, s, l', hb, h => by
    obtain ⟨e1, e2, e3⟩ := getF_canon k (num_bytes (m := 1099511627776) hb) h
    obtain ⟨k1, k2⟩ := num_canon hb e1 (by omega) (by omega)
    refine ⟨?_, ?_, by simp only [getF, List.length_cons, e3]⟩
    · conv => lhs; rw [k1]
      simp only [getF, Pk.encs, List.append_assoc]
      rfl
    · simp only [getF, List.all_cons, Bool.and_eq_true]
      exact ⟨k2, e2⟩
theorem getF_bytes : ∀ (k : Nat) {s : Pk.St}, BytesSt s → BytesSt (getF k s).2
  | 0, s, hb => hb
  | k + 1, s, hb => getF_bytes k (num_bytes (m := 1099511627776) hb)
theorem stF_canon {k : Nat} {s : Pk.St} {l' : List Nat} (hb : BytesSt s) (hk : k ≤ 100) (h : (stF (k : Int) s).2 = some l') : s = some (encN (stF (k : Int) s).1.length ++ (Pk.encs (stF (k : Int) s).1 ++ l')) ∧ wis k (stF (k : Int) s).1 = true := by
  unfold stF at h ⊢
  obtain ⟨e1, e2, e3⟩ := getF_canon _ (num_bytes (m := (k : Int)) hb) h
  obtain ⟨k1, k2⟩ := num_canon hb e1 (by omega) (by omega)
  rw [wi_iff] at k2
  refine ⟨?_, ?_⟩
  · rw [e3]; exact k1
  · unfold wis
    rw [e2, e3, Bool.and_true, decide_eq_true_eq]
    omega
theorem stF_bytes {m : Int} {s : Pk.St} (hb : BytesSt s) : BytesSt (stF m s).2 := getF_bytes _ (num_bytes (m := m) hb)
theorem En.get_canon {s : Pk.St} {l' : List Nat} (hb : BytesSt s) (h : (En.get s).2 = some l') : s = some ((En.get s).1.enc ++ l') ∧ (En.get s).1.ok = true := by
  unfold En.get at h ⊢
  simp only [] at h ⊢
  have b1 := num_bytes (m := 1073741824) hb
  have b2 := num_bytes (m := 1073741824) b1
  have b3 := num_bytes (m := 1073741824) b2
  have b4 := num_bytes (m := 1073741824) b3
  have b5 := (bytV_facts b4 (m := 32) (by omega)).2.2
  have b6 := (bytV_facts b5 (m := 32) (by omega)).2.2
  obtain ⟨e7, o7⟩ := byt_canon b6 h (by omega) (by omega)
  obtain ⟨e6, o6⟩ := byt_canon b5 e7 (by omega) (by omega)
  obtain ⟨e5, o5⟩ := byt_canon b4 e6 (by omega) (by omega)
  obtain ⟨e4, o4⟩ := num_canon b3 e5 (by omega) (by omega)
  obtain ⟨e3, o3⟩ := num_canon b2 e4 (by omega) (by omega)
  obtain ⟨e2, o2⟩ := num_canon b1 e3 (by omega) (by omega)
  obtain ⟨e1, o1⟩ := num_canon hb e2 (by omega) (by omega)
  refine ⟨?_, ?_⟩
  · conv => lhs; rw [e1]
    unfold En.enc eI
    simp only [List.append_assoc]
  · unfold En.ok
    simp only [Bool.and_eq_true, decide_eq_true_eq]
    exact ⟨o1, o2, o3, o4, by omega, by omega, by omega⟩
theorem s4_bytes {s : Pk.St} (hb : BytesSt s) : BytesSt (s4 s) := num_bytes (num_bytes (num_bytes (num_bytes hb)))
/-- what is read of the head -/
theorem s4_canon {s : Pk.St} {l' : List Nat} (hb : BytesSt s) (h : s4 s = some l') : s = some ((hd s).head ++ l') ∧ (hd s).headOk = true ∧ wi 8 (hd s).kind = true := by
  unfold s4 at h
  have b1 := num_bytes (m := 8) hb
  have b2 := num_bytes (m := 6) b1
  have b3 := num_bytes (m := 6) b2
  obtain ⟨e4, o4⟩ := num_canon b3 h (by omega) (by omega)
  obtain ⟨e3, o3⟩ := num_canon b2 e4 (by omega) (by omega)
  obtain ⟨e2, o2⟩ := num_canon b1 e3 (by omega) (by omega)
  obtain ⟨e1, o1⟩ := num_canon hb e2 (by omega) (by omega)
  refine ⟨?_, ?_, o1⟩
  · conv => lhs; rw [e1]
    unfold Mg.head hd
    simp only [List.append_assoc]
  · unfold Mg.headOk hd
    simp only [Bool.and_eq_true]
    exact ⟨o2, o3, o4⟩
theorem hd_kind (s : Pk.St) : (hd s).kind = (Pk.numV s 8 : Int) := rfl
theorem Mg.get_canon {s : Pk.St} {l' : List Nat} (hb : BytesSt s) (h : (Mg.get s).2 = some l') (hk : (Mg.get s).1.kind ≠ 0) :
    s = some ((Mg.get s).1.head ++ ((Mg.get s).1.tail ++ l')) ∧ (Mg.get s).1.ok = true ∧ (Mg.get s).1.bare = (Mg.get s).1 := by
  rw [Mg.get_kind] at hk
  have b4 := s4_bytes hb
  have b5 := num_bytes (m := 1099511627776) b4
  have b6 := num_bytes (m := 1099511627776) b5
  unfold Mg.get at h ⊢
  by_cases c2 : Pk.numV s 8 = 2
  · rw [if_pos c2] at h ⊢
    obtain ⟨e3, o3⟩ := num_canon b6 h (by omega) (by omega)
    obtain ⟨e2, o2⟩ := num_canon b5 e3 (by omega) (by omega)
    obtain ⟨e1, o1⟩ := num_canon b4 e2 (by omega) (by omega)
    obtain ⟨e0, o0, oz⟩ := s4_canon hb e1
    have hkk : (hd s).kind = 2 := by rw [hd_kind, c2]; rfl
    have hz : (if decide (Pk.numV (Pk.numS (Pk.numS (s4 s) 1099511627776) 1099511627776) 1 = 1) then (1 : Int) else 0) = (Pk.numV (Pk.numS (Pk.numS (s4 s) 1099511627776) 1099511627776) 1 : Int) := by
      rw [wi_iff] at o3
      split
      · rename_i q; simp at q; omega
      · rename_i q; simp at q; omega
    refine ⟨?_, ?_, ?_⟩
    · conv => lhs; rw [e0]
      unfold Mg.tail Mg.head
      simp only [hkk, if_true, List.append_assoc]
      unfold Mg.has01
      simp only []
      rw [hz]
    · unfold Mg.ok Mg.tailOk
      simp only [hkk, if_true, Bool.and_eq_true]
      exact ⟨o0, o1, o2⟩
    · unfold Mg.bare; simp only [hkk, if_true]; rfl
  rw [if_neg c2] at h ⊢
  by_cases c3 : Pk.numV s 8 = 3
  · rw [if_pos c3] at h ⊢
    have b5 := num_bytes (m := 127) b4
    have b6 := num_bytes (m := 6) b5
    obtain ⟨e3, o3⟩ := num_canon b6 h (by omega) (by omega)
    obtain ⟨e2, o2⟩ := num_canon b5 e3 (by omega) (by omega)
    obtain ⟨e1, o1⟩ := num_canon b4 e2 (by omega) (by omega)
    obtain ⟨e0, o0, oz⟩ := s4_canon hb e1
    have hkk : (hd s).kind = 3 := by rw [hd_kind, c3]; rfl
    refine ⟨?_, ?_, ?_⟩
    · conv => lhs; rw [e0]
      unfold Mg.tail Mg.head
      simp [hkk, List.append_assoc]
    · unfold Mg.ok Mg.tailOk
      simp [hkk]
      exact ⟨o0, o1, o2, o3⟩
    · unfold Mg.bare; simp [hkk]; simp [hd]
  rw [if_neg c3] at h ⊢
  by_cases c4 : Pk.numV s 8 = 4
  · rw [if_pos c4] at h ⊢
    obtain ⟨e1, o1⟩ := num_canon b4 h (by omega) (by omega)
    obtain ⟨e0, o0, oz⟩ := s4_canon hb e1
    have hkk : (hd s).kind = 4 := by rw [hd_kind, c4]; rfl
    refine ⟨?_, ?_, ?_⟩
    · conv => lhs; rw [e0]
      unfold Mg.tail Mg.head
      simp [hkk, List.append_assoc]
    · unfold Mg.ok Mg.tailOk
      simp [hkk]
      exact ⟨o0, o1⟩
    · unfold Mg.bare; simp [hkk]; simp [hd]
  rw [if_neg c4] at h ⊢
  by_cases c5 : Pk.numV s 8 = 5
  · rw [if_pos c5] at h ⊢
    obtain ⟨e3, o3⟩ := byt_canon b6 h (by omega) (by omega)
    obtain ⟨e2, o2⟩ := num_canon b5 e3 (by omega) (by omega)
    obtain ⟨e1, o1⟩ := num_canon b4 e2 (by omega) (by omega)
    obtain ⟨e0, o0, oz⟩ := s4_canon hb e1
    have hkk : (hd s).kind = 5 := by rw [hd_kind, c5]; rfl
    refine ⟨?_, ?_, ?_⟩
    · conv => lhs; rw [e0]
      unfold Mg.tail Mg.head
      simp [hkk, List.append_assoc]
    · unfold Mg.ok Mg.tailOk
      simp [hkk]
      exact ⟨o0, o1, o2, by omega⟩
    · unfold Mg.bare; simp [hkk]; simp [hd]
  rw [if_neg c5] at h ⊢
  by_cases c7 : Pk.numV s 8 = 7
  · rw [if_pos c7] at h ⊢
    obtain ⟨t, ht⟩ : ∃ t, Pk.numS (Pk.numS (s4 s) 1099511627776) 1099511627776 = t := ⟨_, rfl⟩
    rw [ht] at h b6 ⊢
    obtain ⟨e4, o4⟩ : _ ∧ wis 8 (stF 8 (stF 7 t).2).1 = true := stF_canon (k := 8) (stF_bytes (m := 7) b6) (by omega) h
    obtain ⟨e3, o3⟩ : _ ∧ wis 7 (stF 7 t).1 = true := stF_canon (k := 7) b6 (by omega) e4
    rw [← ht] at e3
    obtain ⟨e2, o2⟩ := num_canon b5 e3 (by omega) (by omega)
    obtain ⟨e1, o1⟩ := num_canon b4 e2 (by omega) (by omega)
    obtain ⟨e0, o0, oz⟩ := s4_canon hb e1
    have hkk : (hd s).kind = 7 := by rw [hd_kind, c7]; rfl
    refine ⟨?_, ?_, ?_⟩
    · conv => lhs; rw [e0]
      unfold Mg.tail Mg.head
      simp [hkk, List.append_assoc, ht]
    · unfold Mg.ok Mg.tailOk
      simp [hkk]
      exact ⟨o0, o1, o2, o3, o4⟩
    · unfold Mg.bare; simp [hkk]; simp [hd]
  rw [if_neg c7] at h ⊢
  by_cases c8 : Pk.numV s 8 = 8
  · rw [if_pos c8] at h ⊢
    have hre : En.read (Pk.numS (s4 s) 1099511627776) = (En.get (Pk.numS (s4 s) 1099511627776)).1 := by
      unfold En.read; rw [h]; simp
    obtain ⟨e2, o2⟩ := En.get_canon b5 h
    obtain ⟨e1, o1⟩ := num_canon b4 e2 (by omega) (by omega)
    obtain ⟨e0, o0, oz⟩ := s4_canon hb e1
    have hkk : (hd s).kind = 8 := by rw [hd_kind, c8]; rfl
    rw [hre]
    refine ⟨?_, ?_, ?_⟩
    · conv => lhs; rw [e0]
      unfold Mg.tail Mg.head
      simp [hkk, List.append_assoc]
    · unfold Mg.ok Mg.tailOk
      simp [hkk]
      exact ⟨o0, o1, o2⟩
    · unfold Mg.bare; simp [hkk]; simp [hd]
  rw [if_neg c8] at h ⊢
  obtain ⟨e0, o0, oz⟩ := s4_canon hb h
  rw [wi_iff, hd_kind] at oz
  have hkk : (hd s).kind = 1 ∨ (hd s).kind = 6 := by rw [hd_kind]; omega
  refine ⟨?_, ?_, ?_⟩
  · conv => lhs; rw [e0]
    unfold Mg.tail
    rcases hkk with hkk | hkk <;> simp [hkk]
  · unfold Mg.ok Mg.tailOk
    rcases hkk with hkk | hkk <;> simp [hkk, o0]
  · unfold Mg.bare
    rcases hkk with hkk | hkk <;> simp [hkk] <;> simp [hd] <;> rw [hd_kind] at hkk <;> omega
/-- bytes that are a message are its own -/
theorem Mg.dec_canon {l : List Nat} (hb : ∀ x ∈ l, x < 256) {m : Mg} (h : Mg.dec l = some m) : m.ok = true ∧ m.enc = l ∧ m.bare = m := by
  unfold Mg.dec at h
  split at h
  · rename_i hw
    injection h with h
    obtain ⟨e1, e2, e3⟩ := Mg.get_canon (s := some l) (fun l' hl' => by injection hl' with hl'; subst hl'; exact hb) hw.2 hw.1
    rw [h] at e1 e2 e3
    injection e1 with e1
    rw [List.append_nil] at e1
    refine ⟨e2, ?_, e3⟩
    unfold Mg.enc
    rw [if_pos e2, ← e1]
  · cases h
end Go.Proofs.Ytlfkgpllleogoaa

namespace Go.Proofs.Ytlfkgpllleogoaa
open Go.RowKit
set_option linter.unusedVariables false
/-- where a message lies -/
structure GA where
  Ad : Option Addr
  cd : Nat
  Ah : Option Addr
  ch : Nat
  An : Option Addr
  cn : Nat
  c : CA
def CA.zero : CA := ⟨none, 0, none, 0, none, 0⟩
def GA.zero : GA := ⟨none, 0, none, 0, none, 0, CA.zero⟩
def msgC (a : GA) (m : Mg) : Array Value := #[.int .i64 m.kind, .int .i64 m.frm, .int .i64 m.dst, .int .i64 m.view, .int .i64 m.inst, .int .i64 m.len, .bool m.has, .int .i64 m.mem, .int .i64 m.src, .int .i64 m.pos, .int .i64 m.tot, .slice a.Ad m.data.length a.cd, .int .i64 m.hop, .int .i64 m.seq, .slice a.Ah m.hav.length a.ch, .slice a.An m.nee.length a.cn, .int .i64 m.idx, .int .i64 m.ent.s, .int .i64 m.ent.q, .int .i64 m.ent.c.kind, .int .i64 m.ent.c.who, .slice a.c.Ak m.ent.c.key.length a.c.ck, .slice a.c.Av m.ent.c.val.length a.c.cv, .slice a.c.Ao m.ent.c.old.length a.c.co]
def msgV (a : GA) (m : Mg) : Value := .agg (msgC a m)
def msgZ : Array Value := #[.int .i64 0, .int .i64 0, .int .i64 0, .int .i64 0, .int .i64 0, .int .i64 0, .bool false, .int .i64 0, .int .i64 0, .int .i64 0, .int .i64 0, .slice none 0 0, .int .i64 0, .int .i64 0, .slice none 0 0, .slice none 0 0, .int .i64 0, .int .i64 0, .int .i64 0, .int .i64 0, .int .i64 0, .slice none 0 0, .slice none 0 0, .slice none 0 0]
/-- a message that reads -/
structure RdG (w : World) (B : Nat) (a : GA) (m : Mg) : Prop where
  d : Rd w B a.Ad m.data.length (bv m.data)
  h : Rd w B a.Ah m.hav.length (iv m.hav)
  n : Rd w B a.An m.nee.length (iv m.nee)
  c : RdC w B a.c m.ent.c
  hl : m.hav.length ≤ a.ch ∧ a.ch ≤ maxLen
  nl : m.nee.length ≤ a.cn ∧ a.cn ≤ maxLen
/-- a message of the call's own -/
structure OwnG (W w : World) (a : GA) (m : Mg) : Prop where
  d : OwnB W w a.Ad m.data.length a.cd m.data
  h : OwnI W w a.Ah m.hav.length a.ch m.hav
  n : OwnI W w a.An m.nee.length a.cn m.nee
  c : OwnC W w a.c m.ent.c
section
variable {W w w' : World} {B : Nat} {a : GA} {m : Mg} {c : Cm} {ca : CA}
theorem RdG.below (h : RdG w B a m) (hb : Below B w w') : RdG w' B a m := ⟨h.d.below hb, h.h.below hb, h.n.below hb, h.c.below hb, h.hl, h.nl⟩
theorem RdG.fit (h : RdG w B a m) : RdG w w.heap.size a m := ⟨h.d.fit, h.h.fit, h.n.fit, h.c.fit, h.hl, h.nl⟩
theorem RdG.below' (h : RdG w w.heap.size a m) (hb : Below w.heap.size w w') : RdG w' w'.heap.size a m := (h.below hb).fit
theorem OwnC.below (h : OwnC W w ca c) (hb : Below w.heap.size w w') : OwnC W w' ca c := ⟨own_below h.k hb, own_below h.v hb, own_below h.o hb⟩
theorem OwnC.of (hs : W.heap.size ≤ w.heap.size) (h : OwnC w w' ca c) : OwnC W w' ca c := ⟨own_of hs h.k, own_of hs h.v, own_of hs h.o⟩
theorem OwnC.zero (W w : World) : OwnC W w CA.zero ⟨0, 0, [], [], []⟩ := ⟨own_nil _ _, own_nil _ _, own_nil _ _⟩
theorem OwnG.rd (h : OwnG W w a m) : RdG w w.heap.size a m := ⟨Rd.own_ h.d, Rd.own_ h.h, Rd.own_ h.n, h.c.rd, own_cap h.h, own_cap h.n⟩
theorem OwnG.below (h : OwnG W w a m) (hb : Below w.heap.size w w') : OwnG W w' a m := ⟨own_below h.d hb, ownsRow_below h.h hb, ownsRow_below h.n hb, h.c.below hb⟩
theorem OwnG.of (hs : W.heap.size ≤ w.heap.size) (h : OwnG w w' a m) : OwnG W w' a m := ⟨own_of hs h.d, own_of hs h.h, own_of hs h.n, h.c.of hs⟩
theorem OwnG.zero (W w : World) : OwnG W w GA.zero Mg.zero := ⟨own_nil _ _, ownI_nil _ _, ownI_nil _ _, OwnC.zero _ _⟩
theorem RdG.zero (w : World) (B : Nat) : RdG w B GA.zero Mg.zero := ⟨Rd.none_ _ _ _, Rd.none_ _ _ _, Rd.none_ _ _ _, RdC.zero _ _, ⟨Nat.le_refl _, Nat.zero_le _⟩, ⟨Nat.le_refl _, Nat.zero_le _⟩⟩
end
/-- rows of lengths that may be, and bytes -/
structure Cm.Wide (c : Cm) : Prop where
  key : c.key.length ≤ 2000000 ∧ ∀ x ∈ c.key, x < 256
  val : c.val.length ≤ 2000000 ∧ ∀ x ∈ c.val, x < 256
  old : c.old.length ≤ 2000000 ∧ ∀ x ∈ c.old, x < 256
structure Mg.Wide (m : Mg) : Prop where
  d : m.data.length ≤ 2000000 ∧ ∀ x ∈ m.data, x < 256
  h : m.hav.length ≤ 2000000
  n : m.nee.length ≤ 2000000
  c : m.ent.c.Wide
theorem Cm.Fits.wide {c : Cm} (h : c.Fits) : c.Wide := ⟨⟨by have := h.key.1; omega, h.key.2⟩, ⟨by have := h.val.1; omega, h.val.2⟩, ⟨by have := h.old.1; omega, h.old.2⟩⟩
theorem Mg.Wide.zero : Mg.zero.Wide := ⟨⟨by simp [Mg.zero], by simp [Mg.zero]⟩, by simp [Mg.zero], by simp [Mg.zero], Cm.Fits.zero.wide⟩
/-- a message, or none -/
def GotG (W w : World) (r : Option Mg) (en : Ending) (w' : World) : Prop :=
  ∃ a, en = .returned (.tuple #[msgV a (r.getD Mg.zero), .bool r.isSome]) ∧ OwnG W w' a (r.getD Mg.zero) ∧ Below W.heap.size W w' ∧ Below w.heap.size w w'
theorem GotG.of {W w w' : World} {r : Option Mg} {en : Ending} (hB : Below W.heap.size W w) (h : GotG w w r en w') : GotG W w r en w' := by
  obtain ⟨a, h1, h2, h3, h4⟩ := h
  exact ⟨a, h1, h2.of hB.size, hB.trans (h3.mono hB.size), h4⟩
def EncodeC11 : Prop := ∀ {W w : World} {a : GA} {m : Mg} {B : Nat}, m.Wide → RdG w B a m → Below W.heap.size W w → Calls Try.prog 16 #[msgV a m] w (GotIn W w m.enc)
def DecodeC11 : Prop := ∀ {W w : World} {A : Option Addr} {n c B : Nat} {l : List Nat}, l.length ≤ 2000000 → (∀ x ∈ l, x < 256) → Rd w B A n (bv l) → Below W.heap.size W w → Calls Try.prog 19 #[.slice A n c] w (GotG W w (Mg.dec l))
theorem DecodeC11.is (h : DecodeC11) {W w : World} {A : Option Addr} {n c B : Nat} {l : List Nat} {r : Option Mg} (he : Mg.dec l = r) (hl : l.length ≤ 2000000) (hb : ∀ x ∈ l, x < 256) (hr : Rd w B A n (bv l)) (hB : Below W.heap.size W w) : Calls Try.prog 19 #[.slice A n c] w (GotG W w r) := by subst he; exact h hl hb hr hB
end Go.Proofs.Ytlfkgpllleogoaa

namespace Go.Proofs.Ytlfkgpllleogoaa
open Go.RowKit
set_option linter.unusedVariables false
theorem RdT.at_ {w : World} {e : TypeId} {A : Option Addr} {n k : Nat} {vs : List Value} {v : Value} (h : RdT w e A n vs) (hk : k < n) (hv : vs[k]? = some v) : ∃ b o, A = some ⟨b, o, none⟩ ∧ w.cell? ⟨b, o + k, none⟩ = some v := by
  obtain ⟨g, o, cur, e1, hb, hc⟩ := h.2 (by omega)
  exact ⟨g, o, e1, (hb.cell _).trans ((hc k hk).trans hv)⟩
theorem iv_at {zs : List Int} {k : Nat} {z : Int} (h : zs[k]? = some z) : (iv zs)[k]? = some (.int .i64 z) := by unfold iv; rw [List.getElem?_map, h]; rfl
end Go.Proofs.Ytlfkgpllleogoaa

namespace Go.Proofs.Ytlfkgpllleogoaa
open Go.RowKit
set_option linter.unusedVariables false
section
variable {P : Program} {t e : TypeId} {z : Value} {bytes size : Nat} {w : World}
theorem wp_append_at (base : Nat) (hb0 : base ≤ w.heap.size) (hT : CellT P t e z bytes) {o : Oper} {a : Act} {next : Act → World → Prop} {Q : Exit → Act → World → Prop} (s x : Operand)
    (ho : o.op = .call { callee := .builtin .append, args := #[s, x], argTypes := #[t, t] })
    {A : Option Addr} {n c : Nat} {vs : List Value} (hs : a.eval s = .slice A n c) (hown : w.ownsRow base e 1 (.slice A n c) n vs)
    {B : Nat} {A' : Option Addr} {m c' : Nat} {ws : List Value} (hx : a.eval x = .slice A' m c') (hr : Rd w B A' m ws) (h1 : ∀ u ∈ ws, u.oneCell' = true) (hnm : n + m ≤ 1099511627776) (hby : bytes ≤ 64)
    (h : ∀ A2 c2 w2, w2.ownsRow base e 1 (.slice A2 (n + m) c2) (n + m) (vs ++ ws) → w.grownBy w2 (Value.slice A n c).ownBlock → next (a.put o.dst (.slice A2 (n + m) c2)) w2) : o.wp P a w next Q := by
  obtain ⟨i, hi, hz, hsz, hbi⟩ := info_parts hT.info
  obtain ⟨v', w', hrun, h2, h3, h4⟩ := run_append_rd (P := P) w base t o.type e i z bytes hT.under hi hz hsz hbi hT.one _ n vs hown B A' m c' ws hr h1
    (by unfold maxLen; omega) (by have := Nat.mul_le_mul hnm hby; omega) hb0
  obtain ⟨A2, c2, rfl, hr2⟩ := Rd.of_own h2
  have hgo := h A2 c2 w' h2 h3
  unfold Oper.wp execOp
  simp only [ho, resolve, invoke, builtin, Sem.run_bind, Sem.run_pure, Result.andThen_ok, List.map_toArray, List.map_cons, List.map_nil, hs, hx, hrun]
  exact hgo
theorem wpList_append_at (base : Nat) (hb0 : base ≤ w.heap.size) (hT : CellT P t e z bytes) {ops : Array Oper} {rest : List Oper} {o : Oper} {a : Act} {Q : Exit → Act → World → Prop} (s x : Operand)
    (ho : o.op = .call { callee := .builtin .append, args := #[s, x], argTypes := #[t, t] }) (hw : Region.wanted o (yielded ops a.tmps) = true)
    {A : Option Addr} {n c : Nat} {vs : List Value} (hs : a.eval s = .slice A n c) (hown : w.ownsRow base e 1 (.slice A n c) n vs)
    {B : Nat} {A' : Option Addr} {m c' : Nat} {ws : List Value} (hx : a.eval x = .slice A' m c') (hr : Rd w B A' m ws) (h1 : ∀ u ∈ ws, u.oneCell' = true) (hnm : n + m ≤ 1099511627776) (hby : bytes ≤ 64)
    (h : ∀ A2 c2 w2, w2.ownsRow base e 1 (.slice A2 (n + m) c2) (n + m) (vs ++ ws) → w.grownBy w2 (Value.slice A n c).ownBlock → wpList P ops Q rest (a.put o.dst (.slice A2 (n + m) c2)) w2) :
    wpList P ops Q (o :: rest) a w := by
  unfold wpList
  rw [if_pos hw]
  exact .inl (wp_append_at base hb0 hT s x ho hs hown hx hr h1 hnm hby h)
end
end Go.Proofs.Ytlfkgpllleogoaa

namespace Go.Proofs.Ytlfkgpllleogoaa
open Go.RowKit
set_option linter.unusedVariables false
/-- what a proof's frame tells of a message that came in -/
structure IsMsg (w : World) (a : GA) (m : Mg) : Prop where
  rd : RdG w w.heap.size a m
  d : ∀ x ∈ m.data, x < 256
  c : m.ent.c.Bytes
/-- a row's length, as its datum has it -/
def slen {H : Type} : DataW H → Nat
  | .slice e _ => e.length
  | _ => 0
/-- the datum of a message is as long as its entry's rows -/
def LongG {H : Type} (d : DataW H) (m : Mg) : Prop :=
  ∃ xs p0 p1 c0 c1 dk dv dd, d = .agg xs ∧ DataW.agg [p0, p1, .agg [c0, c1, dk, dv, dd]] ∈ xs ∧ m.ent.c.key.length ≤ slen dk ∧ m.ent.c.val.length ≤ slen dv ∧ m.ent.c.old.length ≤ slen dd
open Go.ChangeShapes Go.WideShapes Go.ChangeAt in
theorem cell_rowS {H : Type} {enc : TypeId × Value → H} {P : Program} {w : World} {t q : TypeId} {n : Nat} {v : Value} {y : DataW H × List MemPlace} (ht : P.underlying t = some (.slice q)) (hq : P.underlying q = some (.int .u8)) (cq : P.cellsOf q = 1)
    (h : DataW.trod enc P w 0 (fun _ => true) true n t [v] = some y) : ∃ (a : Option Addr) (c : Nat) (l : List Nat), v = .slice a l.length c ∧ (∀ x ∈ l, x < 256) ∧ Rd w w.heap.size a l.length (bv l) ∧ l.length ≤ slen y.1 := by
  have hrow : ∃ a len cap zs, v = .slice a len cap ∧ IsRow .u8 w a len cap zs ∧ len ≤ slen y.1 := by
    rcases open_ints ht hq cq h with ⟨hcs, _⟩ | ⟨x, l, c, zs, hcs, _, hl, hm, hz, hy, hcell, hwz⟩
    · simp at hcs
      subst hcs
      exact ⟨none, 0, 0, [], rfl, .inl ⟨rfl, rfl, rfl, rfl⟩, Nat.zero_le _⟩
    · simp at hcs
      subst hcs
      refine ⟨some x, l, c, zs, rfl, .inr ⟨_, rfl, hl, hm, by simpa using hz, hcell, hwz⟩, ?_⟩
      subst hy
      have hz' : zs.length = c := by simpa using hz
      simp [slen, lits]
      omega
  obtain ⟨a, len, cap, zs, rfl, hr, hle⟩ := hrow
  obtain ⟨l, h1, h2, _⟩ := hr.rd
  obtain rfl := h2.length
  exact ⟨a, cap, l, rfl, h1, h2, hle⟩
open Go.ChangeShapes Go.WideShapes Go.ChangeAt in
theorem cell_ints {H : Type} {enc : TypeId × Value → H} {P : Program} {w : World} {t q : TypeId} {n : Nat} {v : Value} {y : DataW H × List MemPlace} (ht : P.underlying t = some (.slice q)) (hq : P.underlying q = some (.int .i64)) (cq : P.cellsOf q = 1)
    (h : DataW.trod enc P w 0 (fun _ => true) true n t [v] = some y) : ∃ (a : Option Addr) (c : Nat) (l : List Int), v = .slice a l.length c ∧ Rd w w.heap.size a l.length (iv l) ∧ l.length ≤ c ∧ c ≤ maxLen := by
  have hrow : ∃ a len cap zs, v = .slice a len cap ∧ IsRow .i64 w a len cap zs := by
    rcases open_ints ht hq cq h with ⟨hcs, _⟩ | ⟨x, l, c, zs, hcs, _, hl, hm, hz, _, hcell, hwz⟩
    · simp at hcs
      subst hcs
      exact ⟨none, 0, 0, [], rfl, .inl ⟨rfl, rfl, rfl, rfl⟩⟩
    · simp at hcs
      subst hcs
      exact ⟨some x, l, c, zs, rfl, .inr ⟨_, rfl, hl, hm, by simpa using hz, hcell, hwz⟩⟩
  obtain ⟨a, len, cap, zs, rfl, hr⟩ := hrow
  obtain ⟨h2, hl, h4, h5⟩ := hr.ints
  refine ⟨a, cap, zs.take len, by rw [hl], by rw [hl]; exact h2, by rw [hl]; exact h4, h5⟩
open Go.ChangeShapes Go.WideShapes Go.ChangeAt in
theorem cell_bool {H : Type} {enc : TypeId × Value → H} {P : Program} {w : World} {t : TypeId} {n : Nat} {v : Value} {y : DataW H × List MemPlace} (ht : P.underlying t = some .bool)
    (h : DataW.trod enc P w 0 (fun _ => true) true n t [v] = some y) : ∃ b, v = .bool b := by
  obtain ⟨z, h1, _⟩ := DataW.trod_bool ht h
  simp at h1
  exact ⟨z, h1⟩
theorem list24 {α : Type} {l : List α} (h : l.length = 24) : ∃ x0 x1 x2 x3 x4 x5 x6 x7 x8 x9 x10 x11 x12 x13 x14 x15 x16 x17 x18 x19 x20 x21 x22 x23, l = [x0, x1, x2, x3, x4, x5, x6, x7, x8, x9, x10, x11, x12, x13, x14, x15, x16, x17, x18, x19, x20, x21, x22, x23] := by
  match l, h with
  | [x0, x1, x2, x3, x4, x5, x6, x7, x8, x9, x10, x11, x12, x13, x14, x15, x16, x17, x18, x19, x20, x21, x22, x23], _ => exact ⟨x0, x1, x2, x3, x4, x5, x6, x7, x8, x9, x10, x11, x12, x13, x14, x15, x16, x17, x18, x19, x20, x21, x22, x23, rfl⟩
theorem list18 {α : Type} {l : List α} (h : l.length = 18) : ∃ x0 x1 x2 x3 x4 x5 x6 x7 x8 x9 x10 x11 x12 x13 x14 x15 x16 x17, l = [x0, x1, x2, x3, x4, x5, x6, x7, x8, x9, x10, x11, x12, x13, x14, x15, x16, x17] := by
  match l, h with
  | [x0, x1, x2, x3, x4, x5, x6, x7, x8, x9, x10, x11, x12, x13, x14, x15, x16, x17], _ => exact ⟨x0, x1, x2, x3, x4, x5, x6, x7, x8, x9, x10, x11, x12, x13, x14, x15, x16, x17, rfl⟩
theorem list3 {α : Type} {l : List α} (h : l.length = 3) : ∃ x0 x1 x2, l = [x0, x1, x2] := by
  match l, h with
  | [x0, x1, x2], _ => exact ⟨x0, x1, x2, rfl⟩
open Go.ChangeShapes Go.WideShapes Go.ChangeAt in
theorem trod_part {H : Type} {enc : TypeId × Value → H} {P : Program} {w : World} {t : TypeId} {n o c : Nat} {vs us : List Value} {y : Option (DataW H × List MemPlace)} (h : DataW.trod enc P w 0 (fun _ => true) true n t ((vs.drop o).take (P.cellsOf t)) = y) (hc : P.cellsOf t = c) (hu : (vs.drop o).take c = us) : DataW.trod enc P w 0 (fun _ => true) true n t us = y := by
  subst hu hc; exact h
set_option maxHeartbeats 1000000 in
open Go.ChangeShapes Go.WideShapes Go.ChangeAt in
set_option maxRecDepth 100000 in
theorem isMsg {H : Type} {enc : TypeId × Value → H} {w : World} {r : Reach} {b0 : Nat} {v : Value} {d : DataW H} {ps : List MemPlace} (hv : Value.okWide Try.prog w r b0 29 v) (h : DataW.Trod enc Try.prog w 0 (fun _ => true) true 29 v d ps) : ∃ a m, v = msgV a m ∧ IsMsg w a m ∧ LongG d m := by
  have cI : (Try.prog).cellsOf 3 = 1 := by kernel_rfl
  have cB : (Try.prog).cellsOf 4 = 1 := by kernel_rfl
  have cR : (Try.prog).cellsOf 22 = 1 := by kernel_rfl
  have cN : (Try.prog).cellsOf 23 = 1 := by kernel_rfl
  have cE : (Try.prog).cellsOf 27 = 7 := by kernel_rfl
  have cC : (Try.prog).cellsOf 25 = 5 := by kernel_rfl
  have cM : (Try.prog).cellsOf 29 = 24 := by kernel_rfl
  have cU : (Try.prog).cellsOf 5 = 1 := by kernel_rfl
  obtain ⟨cs, rfl, hsz⟩ := okWide_struct Try.underlying29 hv
  rw [cM] at hsz
  obtain ⟨fuel, hf⟩ := h
  obtain ⟨xs, k, _, hx0, _, hxl, hfd⟩ := DataW.trod_struct Try.underlying29 hf
  obtain ⟨cs⟩ := cs
  obtain ⟨v0, v1, v2, v3, v4, v5, v6, v7, v8, v9, v10, v11, v12, v13, v14, v15, v16, v17, v18, v19, v20, v21, v22, v23, rfl⟩ := list24 (l := cs) (by simpa using hsz)
  obtain ⟨y0, y1, y2, y3, y4, y5, y6, y7, y8, y9, y10, y11, y12, y13, y14, y15, y16, y17, rfl⟩ := list18 (l := xs) (by simpa using hxl)
  have e0 := trod_part (t := 3) (o := 0) (us := [v0]) (hfd 0 _ rfl) cI rfl
  obtain ⟨z0, rfl⟩ := cell_int Try.underlying3 (v := v0) (y := y0) e0
  have e1 := trod_part (t := 3) (o := 1) (us := [v1]) (hfd 1 _ rfl) cI rfl
  obtain ⟨z1, rfl⟩ := cell_int Try.underlying3 (v := v1) (y := y1) e1
  have e2 := trod_part (t := 3) (o := 2) (us := [v2]) (hfd 2 _ rfl) cI rfl
  obtain ⟨z2, rfl⟩ := cell_int Try.underlying3 (v := v2) (y := y2) e2
  have e3 := trod_part (t := 3) (o := 3) (us := [v3]) (hfd 3 _ rfl) cI rfl
  obtain ⟨z3, rfl⟩ := cell_int Try.underlying3 (v := v3) (y := y3) e3
  have e4 := trod_part (t := 3) (o := 4) (us := [v4]) (hfd 4 _ rfl) cI rfl
  obtain ⟨z4, rfl⟩ := cell_int Try.underlying3 (v := v4) (y := y4) e4
  have e5 := trod_part (t := 3) (o := 5) (us := [v5]) (hfd 5 _ rfl) cI rfl
  obtain ⟨z5, rfl⟩ := cell_int Try.underlying3 (v := v5) (y := y5) e5
  have e6 := trod_part (t := 4) (o := 6) (us := [v6]) (hfd 6 _ rfl) cB rfl
  obtain ⟨z6, rfl⟩ := cell_bool Try.underlying4 (v := v6) (y := y6) e6
  have e7 := trod_part (t := 3) (o := 7) (us := [v7]) (hfd 7 _ rfl) cI rfl
  obtain ⟨z7, rfl⟩ := cell_int Try.underlying3 (v := v7) (y := y7) e7
  have e8 := trod_part (t := 3) (o := 8) (us := [v8]) (hfd 8 _ rfl) cI rfl
  obtain ⟨z8, rfl⟩ := cell_int Try.underlying3 (v := v8) (y := y8) e8
  have e9 := trod_part (t := 3) (o := 9) (us := [v9]) (hfd 9 _ rfl) cI rfl
  obtain ⟨z9, rfl⟩ := cell_int Try.underlying3 (v := v9) (y := y9) e9
  have e10 := trod_part (t := 3) (o := 10) (us := [v10]) (hfd 10 _ rfl) cI rfl
  obtain ⟨z10, rfl⟩ := cell_int Try.underlying3 (v := v10) (y := y10) e10
  have e11 := trod_part (t := 22) (o := 11) (us := [v11]) (hfd 11 _ rfl) cR rfl
  obtain ⟨A11, k11, l11, rfl, b11, r11⟩ := cell_row Try.underlying22 Try.underlying5 cU (v := v11) (y := y11) e11
  have e12 := trod_part (t := 3) (o := 12) (us := [v12]) (hfd 12 _ rfl) cI rfl
  obtain ⟨z12, rfl⟩ := cell_int Try.underlying3 (v := v12) (y := y12) e12
  have e13 := trod_part (t := 3) (o := 13) (us := [v13]) (hfd 13 _ rfl) cI rfl
  obtain ⟨z13, rfl⟩ := cell_int Try.underlying3 (v := v13) (y := y13) e13
  have e14 := trod_part (t := 23) (o := 14) (us := [v14]) (hfd 14 _ rfl) cN rfl
  obtain ⟨A14, k14, l14, rfl, r14, c14⟩ := cell_ints Try.underlying23 Try.underlying3 cI (v := v14) (y := y14) e14
  have e15 := trod_part (t := 23) (o := 15) (us := [v15]) (hfd 15 _ rfl) cN rfl
  obtain ⟨A15, k15, l15, rfl, r15, c15⟩ := cell_ints Try.underlying23 Try.underlying3 cI (v := v15) (y := y15) e15
  have e16 := trod_part (t := 3) (o := 16) (us := [v16]) (hfd 16 _ rfl) cI rfl
  obtain ⟨z16, rfl⟩ := cell_int Try.underlying3 (v := v16) (y := y16) e16
  have e17 := trod_part (t := 27) (o := 17) (us := [v17, v18, v19, v20, v21, v22, v23]) (hfd 17 _ rfl) cE rfl
  clear hfd
  obtain ⟨xs, k', _, hx1, _, hxl, hfd⟩ := DataW.trod_struct Try.underlying27 (x := y17) e17
  obtain ⟨s0, s1, s2, rfl⟩ := list3 (l := xs) (by simpa using hxl)
  have g0 := trod_part (t := 3) (o := 0) (us := [v17]) (hfd 0 _ rfl) cI rfl
  have g1 := trod_part (t := 3) (o := 1) (us := [v18]) (hfd 1 _ rfl) cI rfl
  have g2 := trod_part (t := 25) (o := 2) (us := [v19, v20, v21, v22, v23]) (hfd 2 _ rfl) cC rfl
  clear hfd
  obtain ⟨z17, rfl⟩ := cell_int Try.underlying3 (v := v17) (y := s0) g0
  obtain ⟨z18, rfl⟩ := cell_int Try.underlying3 (v := v18) (y := s1) g1
  obtain ⟨xs, k'', _, hx2, _, hxl, hfd⟩ := DataW.trod_struct Try.underlying25 (x := s2) g2
  obtain ⟨t0, t1, t2, t3, t4, rfl⟩ := list5 (l := xs) (by simpa using hxl)
  have j0 := trod_part (t := 3) (o := 0) (us := [v19]) (hfd 0 _ rfl) cI rfl
  have j1 := trod_part (t := 3) (o := 1) (us := [v20]) (hfd 1 _ rfl) cI rfl
  have j2 := trod_part (t := 22) (o := 2) (us := [v21]) (hfd 2 _ rfl) cR rfl
  have j3 := trod_part (t := 22) (o := 3) (us := [v22]) (hfd 3 _ rfl) cR rfl
  have j4 := trod_part (t := 22) (o := 4) (us := [v23]) (hfd 4 _ rfl) cR rfl
  obtain ⟨z19, rfl⟩ := cell_int Try.underlying3 (v := v19) (y := t0) j0
  obtain ⟨z20, rfl⟩ := cell_int Try.underlying3 (v := v20) (y := t1) j1
  obtain ⟨A21, k21, l21, rfl, b21, r21, n21⟩ := cell_rowS Try.underlying22 Try.underlying5 cU (v := v21) (y := t2) j2
  obtain ⟨A22, k22, l22, rfl, b22, r22, n22⟩ := cell_rowS Try.underlying22 Try.underlying5 cU (v := v22) (y := t3) j3
  obtain ⟨A23, k23, l23, rfl, b23, r23, n23⟩ := cell_rowS Try.underlying22 Try.underlying5 cU (v := v23) (y := t4) j4
  refine ⟨⟨A11, k11, A14, k14, A15, k15, ⟨A21, k21, A22, k22, A23, k23⟩⟩, ⟨z0, z1, z2, z3, z4, z5, z6, z7, z8, z9, z10, l11, z12, z13, l14, l15, z16, ⟨z17, z18, ⟨z19, z20, l21, l22, l23⟩⟩⟩, rfl, ⟨⟨r11, r14, r15, ⟨r21, r22, r23⟩, c14, c15⟩, b11, ⟨b21, b22, b23⟩⟩, ?_⟩
  subst hx2
  subst hx1
  injection hx0 with hx0
  exact ⟨_, s0.1, s1.1, t0.1, t1.1, t2.1, t3.1, t4.1, hx0, by simp, n21, n22, n23⟩
end Go.Proofs.Ytlfkgpllleogoaa

