/- TknFirst -/
import Derived.Test.YtbgagmpifaakgaaTF35
import Derived.Test.YtbgagmpifaakgaaTF36
namespace Go.Proofs.Ytbgagmpifaakgaa
open Go.RowKit
set_option linter.unusedVariables false
section
variable {P : Program} {t e : TypeId}
theorem made_zerosI (n : Nat) : (madeCells (Value.int .i64 0).cells (n * 1)).toList = iv (List.replicate n 0) := by
  apply List.ext_getElem?
  intro i
  rw [Nat.mul_one]
  rcases Nat.lt_or_ge i n with h | h
  · rw [iv_get (l := List.replicate n 0) (z := 0) (by simp [h])]
    simp [madeCells, Value.cells, h, Nat.mod_one]
  · rw [List.getElem?_eq_none (by simpa [madeCells] using h), List.getElem?_eq_none (by simpa [iv] using h)]
/-- make([]int, n) -/
theorem wpList_make_ints {W w : World} (hT : CellT P t e (.int .i64 0) 8) {ops : Array Oper} {rest : List Oper} {o : Oper} {a : Act} {Q : Exit → Act → World → Prop} (hg : o.guard = none) (l c : Operand)
    (hop : o.op = Op.makeSlice t l c) {n : Nat} (hl : a.eval l = .int .i64 (n : Int)) (hc : a.eval c = .int .i64 (n : Int)) (hn : n ≤ 1000000) (hB : Below W.heap.size W w)
    (h : ∀ w2, w2.ownsRow W.heap.size e 1 (.slice (some ⟨w.heap.size, 0, none⟩) n n) n (iv (List.replicate n 0)) → Below W.heap.size W w2 → w.grownBy w2 none → wpList P ops Q rest (a.put o.dst (.slice (some ⟨w.heap.size, 0, none⟩) n n)) w2) :
    wpList P ops Q (o :: rest) a w := by
  obtain ⟨i, hi, hz, hsz, hby⟩ := info_parts hT.info
  refine wpList_make_full w hg l c t hop W.heap.size e i (.int .i64 0) 1 hT.under hi hz hsz .i64 .i64 n n n hl hc rfl rfl (by rw [hby]; omega) (by unfold maxLen; omega) hB.size ?_
  intro w2 h2 h3
  rw [made_zerosI] at h2
  exact h w2 h2 (hB.grown h3 hB.size (fun k hk => by cases hk)) h3
end
theorem seven17 {k : Nat} (h1 : 1 ≤ k) (h7 : k ≤ 7) : k = 1 ∨ k = 2 ∨ k = 3 ∨ k = 4 ∨ k = 5 ∨ k = 6 ∨ k = 7 := by omega
set_option maxRecDepth 100000 in
theorem mul64_one (w : World) (k : Nat) (h1 : 1 ≤ k) (h7 : k ≤ 7) : Calls Try.prog 39 #[.int .u64 1, .int .u64 k] w fun e w' => e = .returned (.tuple #[.int .u64 0, .int .u64 k]) ∧ w' = w := by
  rcases seven17 h1 h7 with rfl | rfl | rfl | rfl | rfl | rfl | rfl
  all_goals
    clear h1 h7
    go_enter Try.func39, Try.ntmps39
    go_wp2
    go_ret2
    exact ⟨rfl, rfl⟩
theorem mul_one17 (w : World) (k : Nat) (h1 : 1 ≤ k) (h7 : k ≤ 7) : Calls Try.prog 30 #[.int .u64 1, .int .u64 k] w fun e w' => e = .returned (.tuple #[.int .u64 0, .int .u64 k]) ∧ w' = w := by
  go_enter Try.func30, Try.ntmps30
  go_wp2_with (go_at_call 39; refine (mul64_one _ k h1 h7).mono ?_; rintro e w1 ⟨rfl, rfl⟩)
  go_ret2
  exact ⟨rfl, rfl⟩
/-- the first j are v, the others nought -/
def repL (k j : Nat) (v : Int) : List Int := List.replicate j v ++ List.replicate (k - j) 0
theorem repL_all (k : Nat) (v : Int) : repL k k v = List.replicate k v := by simp [repL]
theorem repL_zero (k : Nat) (v : Int) : repL k 0 v = List.replicate k 0 := by simp [repL]
/-- m more of them are written, from the first j on -/
theorem rep_more {W w : World} {g k j m : Nat} {v : Int} (h : OwnI W w (some ⟨g, 0, none⟩) k k (repL k j v)) (hj : j + m ≤ k) :
    ∃ cur, Blk w g 3 cur ∧ cur.size = k ∧ (∀ q, q < j → w.cell? ⟨g, q, none⟩ = some (.int .i64 v)) ∧
      OwnI W (w.setRow g (cur.toList.take j ++ List.replicate m (Value.int .i64 v) ++ cur.toList.drop (j + m)).toArray) (some ⟨g, 0, none⟩) k k (repL k (j + m) v) ∧ Below W.heap.size w (w.setRow g (cur.toList.take j ++ List.replicate m (Value.int .i64 v) ++ cur.toList.drop (j + m)).toArray) := by
  obtain ⟨cur, hb, hs, ht, _, hg⟩ := own_cur h
  have hc : cur.toList = iv (repL k j v) := by rw [← ht, List.take_of_length_le (by simp; omega)]
  have e1 : cur.toList.take j = List.replicate j (Value.int .i64 v) := by rw [hc]; simp [iv, repL]
  have e2 : cur.toList.drop (j + m) = List.replicate (k - (j + m)) (Value.int .i64 0) := by
    rw [hc]; simp [iv, repL, List.drop_append]
    omega
  have hL : (cur.toList.take j ++ List.replicate m (Value.int .i64 v) ++ cur.toList.drop (j + m)) = iv (repL k (j + m) v) := by
    rw [e1, e2, List.replicate_append_replicate]; simp [iv, repL]
  obtain ⟨r1, r2⟩ := own_written h (cur.toList.take j ++ List.replicate m (Value.int .i64 v) ++ cur.toList.drop (j + m)).toArray (n' := k) (vs' := iv (repL k (j + m) v)) (by rw [List.size_toArray, hL]; simp [iv, repL]; omega) (Nat.le_refl _) (by simp [iv, repL]; omega) (by rw [List.toList_toArray, hL, List.take_of_length_le (by simp [iv, repL]; omega)])
  refine ⟨cur, hb, by omega, fun q hq => ?_, r1, (Below.refl _ _).grown r2 (by have := h.lt g rfl; omega) (fun k hk => by injection hk with hk; omega)⟩
  rw [hb.cell, ← Array.getElem?_toList, hc]
  rw [iv_get (z := v)]
  simp [repL, List.getElem?_append, hq]
set_option maxHeartbeats 2000000 in
set_option maxRecDepth 100000 in
theorem repeat17 {w : World} {A : Option Addr} {c B k : Nat} (v : Int) (h : Rd w B A 1 (iv [v])) (h1 : 1 ≤ k) (h7 : k ≤ 7) :
    Calls Try.prog 22 #[.slice A 1 c, .int .i64 k] w (GotI w w (List.replicate k v)) := by
  obtain ⟨b, o, rfl, _⟩ := h.int_at (k := 0) (by omega)
  have hw1 : IntKind.u64.wrap (k : Int) = (k : Int) := IntWalk.u64_in _ (by omega)
  have hw2 : IntKind.i64.wrap (k : Int) = (k : Int) := IntWalk.i64_in _ (by omega)
  have hn0 : ¬ (k : Int) < 0 := by omega
  have hgt : decide ((9223372036854775807 : Int) < (k : Int)) = false := by simp; omega
  have H := Lib.hid h
  clear h
  go_enter Try.func22, Try.ntmps22
  go_upto_region 7 with (first
    | (go_at_call 30; refine (mul_one17 _ k h1 h7).mono ?_; rintro e w1 ⟨rfl, hw1⟩; rw [hw1]; clear hw1)
    | (at_make
       refine wpList_make_ints (W := w) cellI rfl (.tmp 29) (.tmp 29) rfl (n := k) rfl rfl (by omega) (Below.refl _ _) ?_
       intro w2 hown2 hB2 hg2)
    | fail)
  obtain ⟨g, hg⟩ : ∃ g, w.heap.size = g := ⟨_, rfl⟩
  rw [hg] at hown2 ⊢
  have HO2 : OwnI w w2 (some ⟨g, 0, none⟩) k k (repL k 0 v) := by rw [repL_zero]; unfold OwnI; rw [hg]; exact hown2
  obtain ⟨cur, hb, hs, _, ho3, hB3⟩ := rep_more (m := 1) HO2 (by omega)
  have hB3 := hB2.trans hB3
  have HR2 := H.out.fit.below hB2
  have hcp : ∀ ty, (Builtin.copy_ #[22, 22] ty #[.slice (some ⟨g, 0, none⟩) k k, .slice (some ⟨b, o, none⟩) 1 c]).run Try.prog w2 = .ok (.int .i64 ((1 : Nat) : Int)) _ := fun ty =>
    run_copy_blk (P := Try.prog) w2 _ _ ty 3 g 0 k k ⟨b, o, none⟩ 1 c cur 3 [.int .i64 v] 1 1 Try.underlying22 (by kernel_rfl) hb (by simp only [Nat.min_def]; split <;> omega) rfl (fun j u hj => by
      have hj0 : j = 0 := by have := (List.getElem?_eq_some_iff.1 hj).1; simp at this; exact this
      subst hj0
      rw [adr9, Nat.add_zero]
      have := HR2.int_cell (k := 0) (z := v) (by omega) rfl
      rw [Nat.add_zero] at this
      rw [this]; simpa using hj) (by simp; omega) (by intro u hu; simp at hu; subst hu; rfl)
  simp only [List.length_cons, List.length_nil, Nat.zero_add] at hcp
  obtain ⟨w3, hw3⟩ : ∃ y, w2.setRow g (cur.toList.take 0 ++ List.replicate 1 (Value.int .i64 v) ++ cur.toList.drop (0 + 1)).toArray = y := ⟨_, rfl⟩
  have hw3' : w2.setRow g (cur.toList.take 0 ++ [Value.int .i64 v] ++ cur.toList.drop 1).toArray = w3 := hw3
  rw [hw3'] at hcp
  rw [hw3] at ho3 hB3
  have HO3 := Lib.hid ho3
  have HB3 := Lib.hid hB3
  clear ho3 hB3 hw3 hw3' hb hs HR2 HO2 hown2 hB2 hg2
  go_wp2_with (first
    | (at_builtin; refine wpList_copy_knownT _ rfl _ _ 22 22 rfl _ _ rfl rfl (hcp _) ?_)
    | fail)
  go_loopw [8] (fun s8 wr => ∃ j : Nat, s8 = .int .i64 (j : Int) ∧ 1 ≤ j ∧ j ≤ k ∧ Hid (OwnI w wr (some ⟨g, 0, none⟩) k k (repL k j v)) ∧ Hid (Below w.heap.size w wr)) (fun s8 _ => (k - intOf s8).toNat)
  case atStart => exact ⟨1, rfl, by omega, by omega, HO3, HB3⟩
  case round =>
    clear HO3 HB3 hcp
    obtain ⟨j, rfl, hj1, hjk, HO, HB⟩ := hrel
    by_cases hlt : j < k
    · obtain ⟨m, hm⟩ : ∃ m, min (k - j) j = m := ⟨_, rfl⟩
      have hm1 : 1 ≤ m ∧ j + m ≤ k ∧ m ≤ j ∧ m ≤ k - j := by omega
      obtain ⟨cur, hb, hs, hcell, ho, hB⟩ := rep_more (m := m) (ownsRow_below HO.out (Below.refl _ _).drew) hm1.2.1
      have hB := HB.out.drew.trans hB
      have hcp : ∀ ty c1 c2, (Builtin.copy_ #[22, 22] ty #[.slice (some ⟨g, j, none⟩) (k - j) c1, .slice (some ⟨g, 0, none⟩) j c2]).run Try.prog wr.drew = .ok (.int .i64 (m : Int)) _ := fun ty c1 c2 =>
        run_copy_blk (P := Try.prog) wr.drew _ _ ty 3 g j (k - j) c1 ⟨g, 0, none⟩ j c2 cur 3 (List.replicate m (Value.int .i64 v)) 1 m Try.underlying22 (by kernel_rfl) hb (by simp only [Nat.min_def]; split <;> omega) (by simp) (fun q u hq => by
          have hq0 : q < m := by have := (List.getElem?_eq_some_iff.1 hq).1; simpa using this
          rw [adr9, Nat.zero_add, hcell q (by omega)]
          rw [List.getElem?_replicate, if_pos hq0] at hq
          exact hq) (by simp; omega) (by intro u hu; rw [List.mem_replicate] at hu; rw [hu.2]; rfl)
      rw [List.length_replicate] at hcp
      obtain ⟨w4, hw4⟩ : ∃ y, wr.drew.setRow g (cur.toList.take j ++ List.replicate m (Value.int .i64 v) ++ cur.toList.drop (j + m)).toArray = y := ⟨_, rfl⟩
      rw [hw4] at hcp ho hB
      have HO4 := Lib.hid ho
      have HB4 := Lib.hid hB
      have hwi : IntKind.i64.wrap ((j : Int) + (m : Int)) = (j : Int) + (m : Int) := IntWalk.i64_in _ (by omega)
      have hkj : (k : Int) - (j : Int) = ((k - j : Nat) : Int) := by omega
      have hne : ¬ k = j := by omega
      have hM1 := Lib.hid hm1
      clear ho hB hw4 hb hs hcell hm hm1
      go_wp2_with fail
      go_region_law (refine step_copy_knownT rfl _ _ 22 22 rfl _ _ (by simp [Act.eval, Act.put]) (by simp [Act.eval, Act.put]) (hcp _ _ _) ?_)
      go_simp
      go_wp2_with fail
      go_roundw
      case rel => have := hM1.out; exact ⟨j + m, by go_num, by omega, by omega, HO4, HB4⟩
      case measure => have := hM1.out; simp [intOf]; omega
    · obtain rfl : j = k := by omega
      go_wp2_with fail
      go_ret
      have := HO.out
      rw [repL_all] at this
      refine ⟨some ⟨g, 0, none⟩, j, ?_, ?_, HB.out, HB.out⟩
      · rw [List.length_replicate]; rfl
      · rw [List.length_replicate]; exact this
end Go.Proofs.Ytbgagmpifaakgaa

