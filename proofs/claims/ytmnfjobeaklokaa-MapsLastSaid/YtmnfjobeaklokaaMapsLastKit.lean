/- MapsLast: a Go map beside the row of pairs: what it tells, and how each step turns both. -/
import Derived.Test.YtmnfjobeaklokaaMapsCode5
import Derived.Maps.OwnSet
import Derived.StringKeys
namespace Go.Proofs.Ytmnfjobeaklokaa
open Go.RowKit Go.Maps
set_option linter.unusedVariables false
namespace Mp
theorem mem_keys {ps : List Pr} {k : List Nat} : k ∈ keys ps ↔ ∃ p ∈ ps, p.1 = k := by unfold keys; rw [List.mem_map]
theorem del_mem {ps : List Pr} {k : List Nat} {p : Pr} (hr : Rises ps) : p ∈ delS ps k ↔ p ∈ ps ∧ p.1 ≠ k := by
  unfold delS
  by_cases hk : k ∈ keys ps
  · rw [if_pos hk]
    obtain ⟨i, q, e, hl, hq, hqk⟩ := idx_at hk
    rw [e, List.mem_eraseIdx_iff_getElem?]
    constructor
    · rintro ⟨j, hj, hp⟩
      refine ⟨List.mem_of_getElem? hp, fun h => ?_⟩
      rcases Nat.lt_or_ge i j with h1 | h1
      · exact rises_other hr hq hp h1 (by rw [h, hqk])
      · exact rises_other hr hp hq (by omega) (by rw [h, hqk])
    · rintro ⟨hp, hpk⟩
      obtain ⟨j, hj, e1⟩ := List.getElem_of_mem hp
      have hj2 : ps[j]? = some p := by rw [List.getElem?_eq_getElem hj, e1]
      refine ⟨j, fun h => ?_, hj2⟩
      subst h
      rw [hq] at hj2
      injection hj2 with hj2
      exact hpk (by rw [← hj2, hqk])
  · rw [if_neg hk]
    exact ⟨fun hp => ⟨hp, fun h => hk (mem_keys.2 ⟨p, hp, h⟩)⟩, fun h => h.1⟩
theorem del_len {ps : List Pr} {k : List Nat} : (delS ps k).length + (if k ∈ keys ps then 1 else 0) = ps.length := by
  unfold delS
  by_cases hk : k ∈ keys ps
  · rw [if_pos hk, if_pos hk]
    obtain ⟨i, q, e, hl, hq, hqk⟩ := idx_at hk
    rw [e, List.length_eraseIdx_of_lt hl]; omega
  · rw [if_neg hk, if_neg hk]; omega
theorem put_ok {ps : List Pr} {k v : List Nat} (h : putE ps k v = 0) : ¬ (8 < k.length ∨ 16 < v.length) ∧ (k ∈ keys ps ∨ ps.length < 8) := by
  unfold putE at h
  split at h
  · cases h
  · rename_i hl
    refine ⟨hl, ?_⟩
    split at h
    · rename_i hk; exact .inl hk
    · split at h
      · cases h
      · exact .inr (by omega)
theorem put_mem {ps : List Pr} {k v : List Nat} {p : Pr} (hr : Rises ps) (h : putE ps k v = 0) : p ∈ putS ps k v ↔ p = (k, v) ∨ p ∈ delS ps k := by
  obtain ⟨h1, h2⟩ := put_ok h
  rw [← (put_made hr h1 h2).1]
  have := List.take_append_drop (cut (delS ps k) k) (delS ps k)
  constructor
  · intro hp
    rcases List.mem_append.1 hp with hp | hp
    · exact .inr (List.mem_of_mem_take hp)
    · rcases List.mem_cons.1 hp with hp | hp
      · exact .inl hp
      · exact .inr (List.mem_of_mem_drop hp)
  · rintro (hp | hp)
    · exact List.mem_append.2 (.inr (List.mem_cons.2 (.inl hp)))
    · rw [← this] at hp
      rcases List.mem_append.1 hp with hp | hp
      · exact List.mem_append.2 (.inl hp)
      · exact List.mem_append.2 (.inr (List.mem_cons.2 (.inr hp)))
theorem put_len {ps : List Pr} {k v : List Nat} (hr : Rises ps) (h : putE ps k v = 0) : (putS ps k v).length = (delS ps k).length + 1 := by
  obtain ⟨h1, h2⟩ := put_ok h
  rw [← (put_made hr h1 h2).1]
  have := cut_le (delS ps k) k
  simp; omega
theorem put_err {ps : List Pr} {k v : List Nat} (h : putE ps k v ≠ 0) : putS ps k v = ps := by
  unfold putE at h
  unfold putS
  split
  · rfl
  · rename_i h1
    rw [if_neg h1] at h
    split
    · rename_i h2; rw [if_pos h2] at h; exact absurd rfl h
    · rename_i h2
      rw [if_neg h2] at h
      split
      · rfl
      · rename_i h3; rw [if_neg h3] at h; exact absurd rfl h
end Mp
namespace Ml
theorem law : Keyed Try.prog 9 := string_keyed Try.underlying9
theorem zeroB (w : World) : (zeroValue 5).run Try.prog w = .ok (.int .u8 0) w := by kernel_rfl
/-- the map in block B tells D -/
abbrev own (w : World) (B n : Nat) (D : DataW Unit) : Prop := w.ownsMap Try.prog 9 (plainElem Try.prog 5) B n D
def key (k : List Nat) : Lit := .string (strB k).data.toList
theorem key_inj {k k' : List Nat} (hk : ∀ x ∈ k, x < 256) (hk' : ∀ x ∈ k', x < 256) (h : key k = key k') : k = k' := by
  refine strB_inj hk hk' ?_
  unfold key at h
  injection h with h
  apply ByteArray.ext
  exact Array.toList_inj.1 h
theorem key_lit (k : List Nat) : WideAt.IsKeyLit (key k) := by simp [WideAt.IsKeyLit, key]
theorem strB_size (l : List Nat) : (strB l).size = l.length := by
  show (strB l).data.size = l.length
  unfold strB strOfNums; simp
theorem keyOf_mk {k : List Nat} (h : k.length ≤ 100) : keyOf Try.prog 9 (.string (strB k)) = some (key k) :=
  WideMaps.keyOf_string_mk Try.underlying9 (by rw [strB_size]; unfold maxLen; omega)
/-- the map tells what the pairs hold, a byte each -/
structure Tie (D : DataW Unit) (ps : List Pr) : Prop where
  has : ∀ k, (∀ x ∈ k, x < 256) → Maps.has D (key k) = decide (k ∈ Mp.keys ps)
  val : ∀ p ∈ ps, ∃ x, x < 256 ∧ p.2 = [x] ∧ D.atKey (key p.1) (.lit (.int .u8 0)) = .lit (.int .u8 (x : Int))
  size : Maps.size D = ps.length
theorem Tie.start : Tie (.map []) [] := ⟨fun k _ => rfl, fun p h => by simp at h, rfl⟩
theorem Tie.del {D : DataW Unit} {ps : List Pr} (h : Tie D ps) (hD : Tidy D) (hI : Mp.Inv ps) {k : List Nat} (hk : ∀ x ∈ k, x < 256) : Tie (D.del (key k)) (Mp.delS ps k) := by
  refine ⟨fun k' hk' => ?_, fun p hp => ?_, ?_⟩
  · by_cases e : k' = k
    · subst e
      rw [Maps.has_del_same, decide_eq_false (Mp.del_no hI.rise)]
    · rw [Maps.has_del_other (fun h => e (key_inj hk' hk h)), h.has k' hk']
      congr 1
      rw [Mp.mem_keys, Mp.mem_keys]
      exact propext ⟨fun ⟨p, hp, hpk⟩ => ⟨p, (Mp.del_mem hI.rise).2 ⟨hp, by rw [hpk]; exact e⟩, hpk⟩, fun ⟨p, hp, hpk⟩ => ⟨p, ((Mp.del_mem hI.rise).1 hp).1, hpk⟩⟩
  · obtain ⟨hp1, hp2⟩ := (Mp.del_mem hI.rise).1 hp
    obtain ⟨x, h1, h2, h3⟩ := h.val p hp1
    exact ⟨x, h1, h2, by rw [Maps.atKey_del_other (fun h => hp2 (key_inj (hI.byt p hp1).1 hk h))]; exact h3⟩
  · have h1 := Maps.size_del (k := key k) hD
    rw [h.has k hk, h.size] at h1
    have h2 := Mp.del_len (ps := ps) (k := k)
    by_cases hin : k ∈ Mp.keys ps <;> simp [hin] at h1 h2 <;> omega
theorem Tie.put {D : DataW Unit} {ps : List Pr} (h : Tie D ps) (hD : Tidy D) (hI : Mp.Inv ps) {k : List Nat} {x : Nat} (hk : ∀ x ∈ k, x < 256) (hx : x < 256) (hE : Mp.putE ps k [x] = 0) : Tie (D.put (key k) (.lit (.int .u8 (x : Int)))) (Mp.putS ps k [x]) := by
  refine ⟨fun k' hk' => ?_, fun p hp => ?_, ?_⟩
  · by_cases e : k' = k
    · subst e
      rw [Maps.has_put_same hD.isMap (key_lit _), decide_eq_true]
      exact Mp.mem_keys.2 ⟨(k', [x]), (Mp.put_mem hI.rise hE).2 (.inl rfl), rfl⟩
    · rw [Maps.has_put_other (fun h => e (key_inj hk' hk h)), h.has k' hk']
      congr 1
      rw [Mp.mem_keys, Mp.mem_keys]
      exact propext ⟨fun ⟨p, hp, hpk⟩ => ⟨p, (Mp.put_mem hI.rise hE).2 (.inr ((Mp.del_mem hI.rise).2 ⟨hp, by rw [hpk]; exact e⟩)), hpk⟩, fun ⟨p, hp, hpk⟩ => by
        rcases (Mp.put_mem hI.rise hE).1 hp with h1 | h1
        · exact absurd (by rw [← hpk, h1]) e
        · exact ⟨p, ((Mp.del_mem hI.rise).1 h1).1, hpk⟩⟩
  · rcases (Mp.put_mem hI.rise hE).1 hp with h1 | h1
    · subst h1
      exact ⟨x, hx, rfl, by rw [Maps.atKey_put_same hD.isMap (key_lit _)]⟩
    · obtain ⟨hp1, hp2⟩ := (Mp.del_mem hI.rise).1 h1
      obtain ⟨y, h1, h2, h3⟩ := h.val p hp1
      exact ⟨y, h1, h2, by rw [Maps.atKey_put_other (fun h => hp2 (key_inj (hI.byt p hp1).1 hk h))]; exact h3⟩
  · have h1 := Maps.size_put (k := key k) hD (.lit (.int .u8 (x : Int)))
    rw [h.has k hk, h.size] at h1
    have h2 := Mp.del_len (ps := ps) (k := k)
    rw [h1, Mp.put_len hI.rise hE]
    by_cases hin : k ∈ Mp.keys ps <;> simp [hin] at h2 ⊢ <;> omega
theorem own.below {w w' : World} {B n : Nat} {D : DataW Unit} (h : own w B n D) (hb : Below w.heap.size w w') : own w' B n D := by
  have hlt := h.lt
  obtain ⟨es, clock, hk, r⟩ := h
  exact ⟨es, clock, (hb.block B hlt).trans hk, r⟩
/-- a map's turning leaves all cells -/
theorem cell_turned {w w' : World} {B n n' : Nat} {D D' : DataW Unit} (h : own w B n D) (h' : own w' B n' D') (hg : w.grownBy w' (some B)) (p : Addr) (hp : p.block < w.heap.size) : w'.cell? p = w.cell? p := by
  by_cases e : p.block = B
  · obtain ⟨es, clock, hk, _⟩ := h
    obtain ⟨es', clock', hk', _⟩ := h'
    simp [World.cell?, e, hk, hk']
  · exact World.cell?_of_block (hg.block p.block hp (by intro h; injection h with h; exact e h))
end Ml
theorem RdP.keep {w w' : World} {B n : Nat} {A : Option Addr} {ps : List Pr} (h : RdP w B A n ps) (hk : ∀ p : Addr, p.block < B → w'.cell? p = w.cell? p) : RdP w' B A n ps := by
  obtain ⟨vs, h1, h2⟩ := h
  exact ⟨vs, h1.keep hk (Nat.le_refl _), h2.keep hk (Nat.le_refl _)⟩
/-- the row and the map, together -/
structure Last7 (w wr : World) (A : Option Addr) (n c B m : Nat) (ps : List Pr) (D : DataW Unit) : Prop where
  r : RdP wr wr.heap.size A n ps
  le : n ≤ c
  inv : Mp.Inv ps
  bel : Below w.heap.size w wr
  map : Ml.own wr B m D
  tie : Ml.Tie D ps
  base : w.heap.size ≤ B
theorem Last7.below {w wr wx : World} {A : Option Addr} {n c B m : Nat} {ps : List Pr} {D : DataW Unit} (h : Last7 w wr A n c B m ps D) (hb : Below wr.heap.size wr wx) : Last7 w wx A n c B m ps D :=
  ⟨h.r.below' hb, h.le, h.inv, h.bel.trans (hb.mono h.bel.size), h.map.below hb, h.tie, h.base⟩
theorem Last7.mono {w wr : World} {A : Option Addr} {n c B m m' : Nat} {ps : List Pr} {D : DataW Unit} (h : Last7 w wr A n c B m ps D) (hm : m ≤ m') : Last7 w wr A n c B m' ps D :=
  ⟨h.r, h.le, h.inv, h.bel, h.map.mono hm, h.tie, h.base⟩
/-- a new row, and the map as it was -/
theorem Last7.row {w wr wx : World} {A A' : Option Addr} {n c n' c' B m : Nat} {ps ps' : List Pr} {D : DataW Unit} (h : Last7 w wr A n c B m ps D) (hb : Below wr.heap.size wr wx) (ho : OwnP w wx A' n' c' ps') : RdP wx wx.heap.size A' n' ps' ∧ n' ≤ c' ∧ Below w.heap.size w wx ∧ Ml.own wx B m D :=
  ⟨ho.rd, ho.cap, h.bel.trans (hb.mono h.bel.size), h.map.below hb⟩
/-- a row that stays while the map turns -/
theorem RdP.turned {w w' : World} {A : Option Addr} {n B m m' : Nat} {ps : List Pr} {D D' : DataW Unit} (h : RdP w w.heap.size A n ps) (h1 : Ml.own w B m D) (h2 : Ml.own w' B m' D') (hg : w.grownBy w' (some B)) : RdP w' w'.heap.size A n ps :=
  (h.keep (Ml.cell_turned h1 h2 hg)).fit
end Go.Proofs.Ytmnfjobeaklokaa
