/- CrcsLinear: the walk. -/
import Derived.Test.YtgijpmhlkmcpdaaCrcAwake
import Derived.Test.YtgijpmhlkmcpdaaCrcBurst
import Derived.Deep.RegionWith
import Derived.OwnWalk
import Derived.WalkSpells
import Derived.WalkLawsBesides
import Derived.BigRegion
import Derived.Deep.RegionHeld3
namespace Go.Proofs.Ytgijpmhlkmcpdaa
open Go.RowKit
set_option linter.unusedVariables false

theorem run_min4 {P : Program} (w : World) (ts : Array TypeId) (t : TypeId) (a b c : Nat) :
    (Builtin.min_ ts t #[.int .i64 (a : Int), .int .i64 (b : Int), .int .i64 (c : Int), .int .i64 200]).run P w = .ok (.int .i64 ((min (min (min a b) c) 200 : Nat) : Int)) w := by
  have e : ((min (min (min a b) c) 200 : Nat) : Int) = (if (200 : Int) < (if (c : Int) < (if (b : Int) < a then (b : Int) else a) then (c : Int) else (if (b : Int) < a then (b : Int) else a)) then 200 else (if (c : Int) < (if (b : Int) < a then (b : Int) else a) then (c : Int) else (if (b : Int) < a then (b : Int) else a))) := by
    omega
  rw [e]
  simp [Builtin.min_, Builtin.min2]
/-- the first k of X are those of the three rows, laid on each other -/
def Laid (l0 l1 l2 : List Nat) (k : Nat) (X : List Nat) : Prop := ∀ j, j < k → X.getD j 0 = l0.getD j 0 ^^^ l1.getD j 0 ^^^ l2.getD j 0
theorem laid_set {l0 l1 l2 : List Nat} {k : Nat} {X : List Nat} (h : Laid l0 l1 l2 k X) (h0 : k < l0.length) (h1 : k < l1.length) (h2 : k < l2.length) (hk : k < X.length) : Laid l0 l1 l2 (k + 1) (X.set k (l0[k] ^^^ l1[k] ^^^ l2[k])) := by
  intro j hj
  rw [List.getD_eq_getElem?_getD, List.getElem?_set]
  by_cases hkj : k = j
  · subst hkj
    rw [if_pos rfl, if_pos hk, List.getD_eq_getElem?_getD, List.getD_eq_getElem?_getD, List.getD_eq_getElem?_getD, List.getElem?_eq_getElem h0, List.getElem?_eq_getElem h1, List.getElem?_eq_getElem h2]
    rfl
  · rw [if_neg hkj, ← List.getD_eq_getElem?_getD, h j (by omega)]
theorem laid_all {l0 l1 l2 : List Nat} {k : Nat} {X : List Nat} (h : Laid l0 l1 l2 k X) (hX : X.length = k) (h0 : k ≤ l0.length) (h1 : k ≤ l1.length) (h2 : k ≤ l2.length) : X = Crc.lay (Crc.lay (l0.take k) (l1.take k)) (l2.take k) := by
  have e1 : (Crc.lay (l0.take k) (l1.take k)).length = k := by rw [Crc.lay_length _ _ (by rw [List.length_take, List.length_take]; omega), List.length_take]; omega
  have e2 : (l2.take k).length = k := by rw [List.length_take]; omega
  apply List.ext_getElem?
  intro j
  rcases Nat.lt_or_ge j k with hj | hj
  · have hh := h j hj
    have t0 : (l0.take k).getD j 0 = l0.getD j 0 := by rw [List.getD_eq_getElem?_getD, List.getElem?_take_of_lt hj, List.getD_eq_getElem?_getD]
    have t1 : (l1.take k).getD j 0 = l1.getD j 0 := by rw [List.getD_eq_getElem?_getD, List.getElem?_take_of_lt hj, List.getD_eq_getElem?_getD]
    have t2 : (l2.take k).getD j 0 = l2.getD j 0 := by rw [List.getD_eq_getElem?_getD, List.getElem?_take_of_lt hj, List.getD_eq_getElem?_getD]
    have t3 : (Crc.lay (l0.take k) (l1.take k)).getD j 0 = l0.getD j 0 ^^^ l1.getD j 0 := by
      rw [List.getD_eq_getElem?_getD, Crc.lay_get _ _ (by rw [List.length_take, List.length_take]; omega) j (by rw [List.length_take]; omega), t0, t1]; rfl
    rw [Crc.lay_get _ _ (by rw [e1, e2]) j (by omega), t3, t2, ← hh, List.getD_eq_getElem?_getD, List.getElem?_eq_getElem (by omega)]
    rfl
  · rw [List.getElem?_eq_none (by omega), List.getElem?_eq_none (by rw [Crc.lay_length _ _ (by rw [e1, e2])]; omega)]
theorem lay_lt {l m : List Nat} (hl : ∀ x ∈ l, x < 256) (hm : ∀ x ∈ m, x < 256) : ∀ x ∈ Crc.lay l m, x < 256 := by
  induction l generalizing m with
  | nil => intro x hx; simp [Crc.lay] at hx
  | cons a l ih => cases m with
    | nil => intro x hx; simp [Crc.lay] at hx
    | cons b m =>
      intro x hx
      simp only [Crc.lay, List.mem_cons] at hx
      rcases hx with rfl | hx
      · exact Crc.xor_lt8 (hl a (by simp)) (hm b (by simp))
      · exact ih (fun y hy => hl y (by simp [hy])) (fun y hy => hm y (by simp [hy])) x hx
set_option maxHeartbeats 1000000 in
theorem crcsLinear_walk (a0 : Option Addr) (len0 cap0 : Nat) (z0 : List Int) (a1 : Option Addr) (len1 cap1 : Nat) (z1 : List Int) (a2 : Option Addr) (len2 cap2 : Nat) (z2 : List Int) (w : World) (w0 : IsRow .u8 w a0 len0 cap0 z0) (w1 : IsRow .u8 w a1 len1 cap1 z1) (w2 : IsRow .u8 w a2 len2 cap2 z2) :
    Calls Try.prog 4 #[.slice a0 len0 cap0, .slice a1 len1 cap1, .slice a2 len2 cap2] w fun e w' => e = .returned (.bool true) ∧ Below w.heap.size w w' := by
  obtain ⟨l0, hl0, h0, hle0, hcap0⟩ := w0.rd
  obtain ⟨l1, hl1, h1, hle1, hcap1⟩ := w1.rd
  obtain ⟨l2, hl2, h2, hle2, hcap2⟩ := w2.rd
  have hlen0 := h0.length
  have hlen1 := h1.length
  have hlen2 := h2.length
  obtain ⟨n, hn0, hn1, hn2, hn3, hmin⟩ : ∃ n : Nat, n ≤ len0 ∧ n ≤ len1 ∧ n ≤ len2 ∧ n ≤ 200 ∧ ∀ (w : World) ts t, (Builtin.min_ ts t #[.int .i64 (len0 : Int), .int .i64 (len1 : Int), .int .i64 (len2 : Int), .int .i64 200]).run Try.prog w = .ok (.int .i64 (n : Int)) w :=
    ⟨min (min (min len0 len1) len2) 200, by omega, by omega, by omega, by omega, fun w ts t => run_min4 w ts t len0 len1 len2⟩
  have hB0 : Below w.heap.size w w := Below.refl _ _
  go_enter Try.func4, Try.ntmps4
  go_wp2_with (first
    | (at_make
       refine wpList_make_bytes (W := w) byteT rfl _ _ rfl rfl rfl (by omega) hB0 ?_
       intro w3 hown3 hB3)
    | fail)
  have H0 := Lib.hid h0
  have H1 := Lib.hid h1
  have H2 := Lib.hid h2
  have HL0 := Lib.hid hlen0
  have HL1 := Lib.hid hlen1
  have HL2 := Lib.hid hlen2
  clear h0 h1 h2 hlen0 hlen1 hlen2 hmin w0 w1 w2
  go_loopw [9, 21] (fun _ i wr => ∃ (k : Nat) (X : List Nat), k ≤ n ∧ i = .int .i64 k ∧ wr.ownsRow w.heap.size 5 1 (.slice (some ⟨w.heap.size, 0, none⟩) n n) n (bv X) ∧ Below w.heap.size w wr ∧ Laid l0 l1 l2 k X)
    (fun _ i _ => n - (intOf i).toNat)
  case atStart => exact ⟨0, List.replicate n 0, by omega, rfl, hown3, hB3, fun j hj => absurd hj (by omega)⟩
  case round =>
    obtain ⟨k, X, hk, rfl, hown4, hB4, hX⟩ := hrel
    have HN := Lib.hid (show X.length = n by have := (Rd.own_ hown4).length; exact this)
    clear hown3 hB3
    by_cases hlt : k < n
    · obtain ⟨b0, o0, rfl, hk0, hc0⟩ := (H0.out.below hB4).bytes_at (k := k) (by omega)
      obtain ⟨b1, o1, rfl, hk1, hc1⟩ := (H1.out.below hB4).bytes_at (k := k) (by omega)
      obtain ⟨b2, o2, rfl, hk2, hc2⟩ := (H2.out.below hB4).bytes_at (k := k) (by omega)
      have hf := hown4.frozenAt k
      have hc3 := own_byte hown4 hlt
      have hx1 : bits .xor .u8 ((l0[k] : Nat) : Int) ((l1[k] : Nat) : Int) = ((l0[k] ^^^ l1[k] : Nat) : Int) := u8_xor_nat _ _ (hl0 _ (List.getElem_mem hk0)) (hl1 _ (List.getElem_mem hk1))
      have hx2 : bits .xor .u8 ((l0[k] ^^^ l1[k] : Nat) : Int) ((l2[k] : Nat) : Int) = ((l0[k] ^^^ l1[k] ^^^ l2[k] : Nat) : Int) := u8_xor_nat _ _ (Crc.xor_lt8 (hl0 _ (List.getElem_mem hk0)) (hl1 _ (List.getElem_mem hk1))) (hl2 _ (List.getElem_mem hk2))
      have HO := Lib.hid (own_set hown4 k (l0[k] ^^^ l1[k] ^^^ l2[k]))
      have HB := Lib.hid (fun u => hB4.setCell (p := ⟨w.heap.size, k, none⟩) (Nat.le_refl _) u)
      have HX := Lib.hid hX
      clear hX
      have hi0 : (0 : Int) ≤ (k : Int) := by omega
      have hi1 : (k : Int) < (n : Int) := by omega
      have hi2 : (k : Int) < (len0 : Int) := by omega
      have hi3 : (k : Int) < (len1 : Int) := by omega
      have hi4 : (k : Int) < (len2 : Int) := by omega
      go_wp2
      go_region
      all_goals go_wp2
      all_goals
        go_roundw
        case rel => exact ⟨k + 1, X.set k (l0[k] ^^^ l1[k] ^^^ l2[k]), by omega, by go_num, HO.out, (HB.out _).drew, laid_set HX.out hk0 hk1 hk2 (by have := HN.out; omega)⟩
        case measure => simp [intOf]; omega
    · obtain rfl : k = n := by omega
      have hs0 := Crc.sum_lt (l0.take k) (Crc.take_lt hl0 k)
      have hs1 := Crc.sum_lt (l1.take k) (Crc.take_lt hl1 k)
      have hs2 := Crc.sum_lt (l2.take k) (Crc.take_lt hl2 k)
      have hz1 : bits .xor .u32 ((Crc.sum (l0.take k) : Nat) : Int) ((Crc.sum (l1.take k) : Nat) : Int) = ((Crc.sum (l0.take k) ^^^ Crc.sum (l1.take k) : Nat) : Int) := u32_xor_nat _ _ hs0 hs1
      have hz2 : bits .xor .u32 ((Crc.sum (l0.take k) ^^^ Crc.sum (l1.take k) : Nat) : Int) ((Crc.sum (l2.take k) : Nat) : Int) = ((Crc.sum (l0.take k) ^^^ Crc.sum (l1.take k) ^^^ Crc.sum (l2.take k) : Nat) : Int) := u32_xor_nat _ _ (Crc.xor_lt32 hs0 hs1) hs2
      have heX : X = Crc.lay (Crc.lay (l0.take k) (l1.take k)) (l2.take k) := laid_all hX HN.out (by rw [HL0.out]; omega) (by rw [HL1.out]; omega) (by rw [HL2.out]; omega)
      have heq : (((Crc.sum X : Nat) : Int) == ((Crc.sum (l0.take k) ^^^ Crc.sum (l1.take k) ^^^ Crc.sum (l2.take k) : Nat) : Int)) = true := by
        rw [heX, Crc.run3 (by rw [List.length_take, List.length_take, HL0.out, HL1.out]; omega) (by rw [List.length_take, List.length_take, HL0.out, HL2.out]; omega)]
        exact beq_self_eq_true _
      have hXl : ∀ x ∈ X, x < 256 := by rw [heX]; exact lay_lt (lay_lt (Crc.take_lt hl0 k) (Crc.take_lt hl1 k)) (Crc.take_lt hl2 k)
      have R0 := ((H0.out.below hB4).take hn0).drew
      have R1 := ((H1.out.below hB4).take hn1).drew
      have R2 := ((H2.out.below hB4).take hn2).drew
      rw [← bv_take] at R0 R1 R2
      have RX := (Rd.own_ hown4).drew
      have HXl := Lib.hid hXl
      have hkm : k ≤ maxLen := by unfold maxLen; omega
      clear heX hXl hX hs0 hs1 hs2
      have hj0 : (0 : Int) ≤ (k : Int) := by omega
      have hj1 : (k : Int) ≤ (cap0 : Int) := by omega
      have hj2 : (k : Int) ≤ (cap1 : Int) := by omega
      have hj3 : (k : Int) ≤ (cap2 : Int) := by omega
      go_wp2
      go_region_held3 (fun _ => True) (trivial)
        (first
          | (go_at_call_of 8 (Value.slice (some ⟨w.heap.size, 0, none⟩) k k); refine (sum_any X HXl.out _ _ _ _ hkm _ RX).mono ?_; rintro e w1 ⟨rfl, rfl⟩)
          | (go_at_call_of 8 (Value.slice a0 k cap0); refine (sum_any (l0.take k) (Crc.take_lt hl0 k) _ _ _ _ hkm _ R0).mono ?_; rintro e w1 ⟨rfl, rfl⟩)
          | (go_at_call_of 8 (Value.slice a1 k cap1); refine (sum_any (l1.take k) (Crc.take_lt hl1 k) _ _ _ _ hkm _ R1).mono ?_; rintro e w1 ⟨rfl, rfl⟩)
          | (go_at_call_of 8 (Value.slice a2 k cap2); refine (sum_any (l2.take k) (Crc.take_lt hl2 k) _ _ _ _ hkm _ R2).mono ?_; rintro e w1 ⟨rfl, rfl⟩)
          | (go_at_call 9; refine (awake_any _).mono ?_; rintro e w1 ⟨rfl, hB6⟩))
      all_goals go_wp2
      all_goals go_ret
      all_goals exact ⟨rfl, hB4.drew.trans (hB6.mono hB4.size)⟩
end Go.Proofs.Ytgijpmhlkmcpdaa
