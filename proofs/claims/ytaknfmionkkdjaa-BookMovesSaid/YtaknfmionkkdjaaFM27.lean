/- SameRows InPlaceKit -/
import Derived.Test.YtaknfmionkkdjaaFM04
import Derived.Test.YtaknfmionkkdjaaFM05
import Derived.BigQuiet
import Derived.Deep.DeepCutAuto
import Derived.Deep.DrawnRows
import Derived.Deep.QuietTactic
import Derived.Deep.RegionHeld3
import Derived.Deep.RegionWith
import Derived.WalkSmall
import Derived.Laws.CopyRow
namespace Go.Proofs.Ytaknfmionkkdjaa
open Go.RowKit
set_option linter.unusedVariables false
set_option maxRecDepth 100000 in
set_option maxHeartbeats 1000000 in
theorem sameRows_any (w : World) {A A' : Option Addr} {n c n' c' B B' : Nat} {qs qs' : List (List Nat)} (hb : BytesL qs) (hb' : BytesL qs') (h : RdQ w B A n qs) (h' : RdQ w B' A' n' qs') (hn : n ≤ maxLen) (hn' : n' ≤ maxLen) :
    Calls Try.prog 47 #[.slice A n c, .slice A' n' c'] w fun e w' => e = .returned (.bool (decide (qs = qs'))) ∧ ∃ k, w' = w.drewN k := by
  have hl : qs.length = n := h.length
  have hl' : qs'.length = n' := h'.length
  unfold maxLen at hn hn'
  by_cases hne : n = n'
  · subst hne
    have HN : Hid (n ≤ 9223372036854775807) := Lib.hid (by omega)
    have HL := Lib.hid hl
    have HL' := Lib.hid hl'
    have H := Lib.hid h
    have H' := Lib.hid h'
    have HBY := Lib.hid hb
    have HBY' := Lib.hid hb'
    clear h h' hl hl' hn hn' hb hb'
    go_enter Try.func47, Try.ntmps47
    go_wp2
    go_loopw [5] (fun i wr => ∃ k : Nat, k ≤ n ∧ i = .int .i64 k ∧ (∀ j, j < k → qs[j]? = qs'[j]?) ∧ ∃ m, wr = w.drewN m) (fun i _ => n - (intOf i).toNat)
    case atStart => exact ⟨0, Nat.zero_le _, rfl, fun j hj => absurd hj (by omega), 0, rfl⟩
    case round =>
      obtain ⟨k, hk, rfl, hs, m, hm⟩ := hrel
      have hkm : (k : Int) ≤ 9223372036854775806 ∨ k = n := by have := HN.out; omega
      by_cases hlt : k < n
      · have hW : Below w.heap.size w wr := by rw [hm]; exact (Below.refl w.heap.size w).trans ⟨rfl, rfl, rfl, Nat.le_refl _, fun _ _ => rfl⟩
        obtain ⟨b, o, l, A1, c1, rfl, hz, hc, hr1⟩ := (H.out.fit.below hW).at hlt
        obtain ⟨b', o', l', A2, c2, rfl, hz', hc', hr2⟩ := (H'.out.fit.below hW).at hlt
        have q1 := fun i => str_of (c := c1) (hr1.drewN i)
        have q2 := fun i => str_of (c := c2) (hr2.drewN i)
        have q3 := strL_eq (HBY.out l (List.mem_of_getElem? hz)) (HBY'.out l' (List.mem_of_getElem? hz'))
        have hv : IntKind.i64.wrap ((k : Int) + 1) = (k : Int) + 1 := IntWalk.i64_in _ (by have := HN.out; omega)
        have HS := Lib.hid hs
        have HZ := Lib.hid hz
        have HZ' := Lib.hid hz'
        have HM := Lib.hid hm
        clear hs hz hz' hm hkm hr1 hr2 hW
        by_cases he : l = l'
        · subst he
          rw [decide_eq_true rfl] at q3
          go_wp2
          go_quiet (fail)
          go_wp2
          go_roundw
          case rel =>
            refine ⟨k + 1, by omega, by go_num, fun j hj => ?_, m + nq, by rw [HM.out, World.drewN_drewN]⟩
            rcases Nat.lt_or_ge j k with h1 | h1
            · exact HS.out j h1
            · obtain rfl : j = k := by omega
              rw [HZ.out, HZ'.out]
          case measure => simp [intOf]; omega
        · rw [decide_eq_false he] at q3
          have HE := Lib.hid (show decide (qs = qs') = false by
            rw [decide_eq_false_iff_not]
            rintro rfl
            have h1 := HZ.out
            rw [HZ'.out] at h1
            injection h1 with h1
            exact he h1.symm)
          clear he
          go_wp2
          go_quiet (fail)
          go_wp2
          go_ret
          exact ⟨ret_bool HE.out.symm, m + nq, by rw [HM.out, World.drewN_drewN]⟩
      · have hkn : k = n := by omega
        have HE := Lib.hid (show decide (qs = qs') = true by
          rw [decide_eq_true_iff]
          apply List.ext_getElem?
          intro j
          rcases Nat.lt_or_ge j n with h1 | h1
          · exact hs j (by omega)
          · rw [List.getElem?_eq_none (by have := HL.out; omega), List.getElem?_eq_none (by have := HL'.out; omega)])
        have HM := Lib.hid hm
        clear hs hkn hm hkm
        go_wp2
        go_ret
        exact ⟨ret_bool HE.out.symm, m, HM.out⟩
  · have HE := Lib.hid (show decide (qs = qs') = false by
      rw [decide_eq_false_iff_not]; rintro rfl; omega)
    have hd : ((n : Int) == (n' : Int)) = false := by simp; omega
    have hd2 : ((n : Int) != (n' : Int)) = true := by simp; omega
    clear h h' hl hl' hn hn' hne
    go_enter Try.func47, Try.ntmps47
    go_wp2
    go_ret
    exact ⟨ret_bool HE.out.symm, 0, rfl⟩
theorem sameRows_below (w : World) {A A' : Option Addr} {n c n' c' B B' : Nat} {qs qs' : List (List Nat)} (hb : BytesL qs) (hb' : BytesL qs') (h : RdQ w B A n qs) (h' : RdQ w B' A' n' qs') (hn : n ≤ maxLen) (hn' : n' ≤ maxLen) :
    Calls Try.prog 47 #[.slice A n c, .slice A' n' c'] w fun e w' => e = .returned (.bool (decide (qs = qs'))) ∧ Below w.heap.size w w' :=
  (sameRows_any w hb hb' h h' hn hn').mono fun e w' h => ⟨h.1, by obtain ⟨k, hk⟩ := h.2; rw [hk]; exact ⟨rfl, rfl, rfl, Nat.le_refl _, fun _ _ => rfl⟩⟩
end Go.Proofs.Ytaknfmionkkdjaa

namespace Go.Proofs.Ytaknfmionkkdjaa
open Go.RowKit
set_option linter.unusedVariables false
theorem adr_add (g o j : Nat) : (⟨g, o, none⟩ : Addr).add j = ⟨g, o + j, none⟩ := by unfold Addr.add; split <;> simp_all
section
variable {P : Program} {t e : TypeId} {z : Value} {size bytes : Nat}
/-- what a slice that reads holds, at its address -/
theorem Rd.news {w : World} {B n : Nat} {A : Option Addr} {vs : List Value} (h : Rd w B A n vs) (hn : 0 < n) : ∃ a, A = some a ∧ ∀ j u, vs[j]? = some u → w.cell? (a.add j) = some u := by
  obtain ⟨b, o, rfl, _, hc⟩ := h.2 hn
  refine ⟨_, rfl, fun j u hu => ?_⟩
  have hj : j < n := by have := (List.getElem?_eq_some_iff.1 hu).1; rw [h.1] at this; exact this
  rw [adr_add, hc j hj, hu]
/-- append in place, as one step of a region that draws -/
theorem step_append_fits {W w : World} (hT : CellS P t e z size bytes) {ops : Array Oper} {o : Oper} {a : Act} {K : Act → World → Prop} {Q : Exit → Act → World → Prop} {E : Prop} (s x : Operand)
    (ho : o.op = .call { callee := .builtin .append, args := #[s, x], argTypes := #[t, t] }) (hg : o.guard = none)
    {g n c : Nat} {vs : List Value} (hs : a.eval s = .slice (some ⟨g, 0, none⟩) n c) (hown : w.ownsRow W.heap.size e size (.slice (some ⟨g, 0, none⟩) n c) n vs)
    {B : Nat} {A' : Option Addr} {m c' : Nat} {ws : List Value} (hx : a.eval x = .slice A' m c') (hr : Rd w B A' (m * size) ws) (h1 : ∀ u ∈ ws, u.oneCell' = true) (hm : 0 < m) (hroom : n + m ≤ c) (hB : Below W.heap.size W w)
    (h : ∀ w2, w2.ownsRow W.heap.size e size (.slice (some ⟨g, 0, none⟩) (n + m) c) (n + m) (vs ++ ws) → Below W.heap.size W w2 → w.grownBy w2 (some g) → K (a.put o.dst (.slice (some ⟨g, 0, none⟩) (n + m) c)) w2) :
    if Region.wanted o (yielded ops a.tmps) = true then Oper.wp P o a w K Q else E := by
  have hw : Region.wanted o (yielded ops a.tmps) = true := by simp [Region.wanted, hg]
  rw [if_pos hw]
  obtain ⟨i, hi, hz, hsz, hbi⟩ := info_parts hT.info
  obtain ⟨ad, rfl, hnews⟩ := hr.news (Nat.mul_pos hm hT.pos)
  obtain ⟨w', hrun, h2, h3⟩ := run_append_fits (P := P) w W.heap.size t o.type e i size hT.under hi hsz g n c vs hown ad m c' ws hr.1 hnews h1 hroom
  have hlt := hown.lt
  have hB2 : Below W.heap.size W w' := hB.grown h3 hB.size (fun k hk => (hlt k hk).1)
  have hgo := h w' h2 hB2 h3
  unfold Oper.wp execOp
  simp only [ho, resolve, invoke, builtin, Sem.run_bind, Sem.run_pure, Result.andThen_ok, List.map_toArray, List.map_cons, List.map_nil, hs, hx, hrun]
  exact hgo
theorem wpList_append_fits {W w : World} (hT : CellS P t e z size bytes) {ops : Array Oper} {rest : List Oper} {o : Oper} {a : Act} {Q : Exit → Act → World → Prop} (s x : Operand)
    (ho : o.op = .call { callee := .builtin .append, args := #[s, x], argTypes := #[t, t] }) (hw : Region.wanted o (yielded ops a.tmps) = true)
    {g n c : Nat} {vs : List Value} (hs : a.eval s = .slice (some ⟨g, 0, none⟩) n c) (hown : w.ownsRow W.heap.size e size (.slice (some ⟨g, 0, none⟩) n c) n vs)
    {B : Nat} {A' : Option Addr} {m c' : Nat} {ws : List Value} (hx : a.eval x = .slice A' m c') (hr : Rd w B A' (m * size) ws) (h1 : ∀ u ∈ ws, u.oneCell' = true) (hm : 0 < m) (hroom : n + m ≤ c) (hB : Below W.heap.size W w)
    (h : ∀ w2, w2.ownsRow W.heap.size e size (.slice (some ⟨g, 0, none⟩) (n + m) c) (n + m) (vs ++ ws) → Below W.heap.size W w2 → w.grownBy w2 (some g) → wpList P ops Q rest (a.put o.dst (.slice (some ⟨g, 0, none⟩) (n + m) c)) w2) :
    wpList P ops Q (o :: rest) a w := by
  obtain ⟨i, hi, hz, hsz, hbi⟩ := info_parts hT.info
  obtain ⟨ad, rfl, hnews⟩ := hr.news (Nat.mul_pos hm hT.pos)
  obtain ⟨w', hrun, h2, h3⟩ := run_append_fits (P := P) w W.heap.size t o.type e i size hT.under hi hsz g n c vs hown ad m c' ws hr.1 hnews h1 hroom
  have hlt := hown.lt
  have hB2 : Below W.heap.size W w' := hB.grown h3 hB.size (fun k hk => (hlt k hk).1)
  have hgo := h w' h2 hB2 h3
  unfold wpList
  rw [if_pos hw]
  refine Or.inl ?_
  unfold Oper.wp execOp
  simp only [ho, resolve, invoke, builtin, Sem.run_bind, Sem.run_pure, Result.andThen_ok, List.map_toArray, List.map_cons, List.map_nil, hs, hx, hrun]
  exact hgo
end
/-- a row of the call's own, some of whose cells are written over -/
theorem own_written {w : World} {base g n c size n' : Nat} {e : TypeId} {vs vs' : List Value} (h : w.ownsRow base e size (.slice (some ⟨g, 0, none⟩) n c) n vs) (cs : Array Value) (hcs : cs.size = c * size) (hn : n' ≤ c) (hl : vs'.length = n' * size) (ht : cs.toList.take (n' * size) = vs') :
    (w.setRow g cs).ownsRow base e size (.slice (some ⟨g, 0, none⟩) n' c) n' vs' ∧ w.grownBy (w.setRow g cs) (some g) := by
  rcases h.2 with ⟨h1, _⟩ | ⟨g', cap, cur, hv, hb, hh, hnc, hm, hs, htk⟩
  · simp at h1
  · simp only [Value.slice.injEq, Option.some.injEq, Addr.mk.injEq, and_true, true_and] at hv
    obtain ⟨rfl, rfl⟩ := hv
    exact ⟨⟨hl, .inr ⟨g, c, cs, rfl, hb, setRow_heap w g cur _ e _ hh, hn, hm, hcs, ht⟩⟩, ⟨rfl, rfl, rfl, by simp, fun k _ hk => setRow_other w g k _ (fun e => hk (by simp [e]))⟩⟩
theorem own_cur {w : World} {base g n c size : Nat} {e : TypeId} {vs : List Value} (h : w.ownsRow base e size (.slice (some ⟨g, 0, none⟩) n c) n vs) : ∃ cur, Blk w g e cur ∧ cur.size = c * size ∧ cur.toList.take (n * size) = vs ∧ n ≤ c ∧ base ≤ g := by
  rcases h.2 with ⟨h1, _⟩ | ⟨g', cap, cur, hv, hb, hh, hnc, hm, hs, htk⟩
  · simp at h1
  · simp only [Value.slice.injEq, Option.some.injEq, Addr.mk.injEq, and_true, true_and] at hv
    obtain ⟨rfl, rfl⟩ := hv
    exact ⟨cur, hh, hs, htk, hnc, hb⟩
/-- copy into a block that is known -/
theorem run_copy_blk {P : Program} (w : World) (dT sT ty elem : TypeId) (g o dLen dCap : Nat) (a : Addr) (sLen sCap : Nat) (cur : Array Value) (t : TypeId) (cs : List Value) (size m : Nat)
    (hu : P.underlying dT = some (.slice elem)) (hs : (P.info? elem).map (·.size) = some size)
    (hg : Blk w g t cur) (hm : m = Nat.min sLen dLen) (hn : cs.length = m * size)
    (hsrc : ∀ j v, cs[j]? = some v → w.cell? (a.add j) = some v) (hfit : o + cs.length ≤ cur.size) (h1 : ∀ v ∈ cs, v.oneCell' = true) :
    (Builtin.copy_ #[dT, sT] ty #[.slice (some ⟨g, o, none⟩) dLen dCap, .slice (some a) sLen sCap]).run P w =
      .ok (.int .i64 (m : Int)) (w.setRow g (cur.toList.take o ++ cs ++ cur.toList.drop (o + cs.length)).toArray) := by
  have hl := run_loadCells_list (P := P) w a cs hsrc
  have hst := run_storeCells_at P g o t cs 0 cur w hg (by simpa using hfit) h1
  cases hq : P.info? elem with
  | none => simp [hq] at hs
  | some i =>
    have hi : i.size = size := by simpa [hq] using hs
    rw [hn] at hl
    simp only [Nat.add_zero] at hst
    simp [Builtin.copy_, run_underlying hu, Builtin.lenOf, Builtin.firstCells, sizeOf, typeInfo, hq, hi, ← hm, hl, hst, goInt]
/-- clear of one element -/
theorem run_clear_one {P : Program} (w : World) (t ty e : TypeId) (i : TypeInfo) (z : Value) (ht : P.underlying t = some (.slice e)) (hi : P.info? e = some i) (hz : i.zero = some z) (h1 : ∀ u ∈ z.cells.toList, u.oneCell' = true)
    (g o c : Nat) (cur : Array Value) (hg : Blk w g e cur) (hfit : o + z.cells.size ≤ cur.size) :
    (Builtin.clear_ #[t] ty #[.slice (some ⟨g, o, none⟩) 1 c]).run P w = .ok (.tuple #[]) (w.setRow g (cur.toList.take o ++ z.cells.toList ++ cur.toList.drop (o + z.cells.size)).toArray) := by
  have hzc : (Builtin.zeroCells z.cells 1).toList = z.cells.toList := by
    unfold Builtin.zeroCells
    apply List.ext_getElem?
    intro j
    rcases Nat.lt_or_ge j z.cells.size with hj | hj
    · simp [hj, Nat.mod_eq_of_lt hj]
    · simp [hj]
  have hst := run_storeCells_at P g o e z.cells.toList 0 cur w hg (by simpa using hfit) h1
  simp only [Nat.add_zero] at hst
  simp [Builtin.clear_, run_underlying ht, zeroValue, typeInfo, hi, hz, hzc, hst]
end Go.Proofs.Ytaknfmionkkdjaa

