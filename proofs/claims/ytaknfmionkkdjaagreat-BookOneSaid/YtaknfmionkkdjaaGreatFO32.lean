/- InPlaceKit RegsWalks -/
import Derived.Test.YtaknfmionkkdjaaGreatFO01
import Derived.Test.YtaknfmionkkdjaaGreatFO02
import Derived.Test.YtaknfmionkkdjaaGreatFO05
import Derived.Test.YtaknfmionkkdjaaGreatFO07
import Derived.Test.YtaknfmionkkdjaaGreatFO31
import Derived.Laws.CopyRow
import Derived.Deep.DrawnRows
import Derived.Deep.QuietTactic
import Derived.Deep.RegionHeld3
namespace Go.Proofs.YtaknfmionkkdjaaGreat
open Go.RowKit
set_option linter.unusedVariables false
theorem adr_add (g o j : Nat) : (⟨g, o, none⟩ : Addr).add j = ⟨g, o + j, none⟩ := by unfold Addr.add; split <;> simp_all
section
variable {P : Program} {t e : TypeId} {z : Value} {size bytes : Nat}
/-- what a slice that reads holds, at its address -/
theorem Rd.news {w : World} {B n : Nat} {A : Option Addr} {vs : List Value} (h : Rd w B A n vs) (hn : 0 < n) : ∃ a, A = some a ∧ ∀ j u, vs[j]? = some u → w.cell? (a.add j) = some u := by
  obtain ⟨b, o, rfl, _, hc⟩ := h.2 hn
  refine ⟨_, rfl, fun j u hu => ?_⟩
  have hj : j < n := by have := (List.getElem?_eq_some_iff.1 hu).1; rw [h.1] at this; exact this
  rw [adr_add, hc j hj, hu]
/-- append in place, as one step of a region that draws -/
theorem step_append_fits {W w : World} (hT : CellS P t e z size bytes) {ops : Array Oper} {o : Oper} {a : Act} {K : Act → World → Prop} {Q : Exit → Act → World → Prop} {E : Prop} (s x : Operand)
    (ho : o.op = .call { callee := .builtin .append, args := #[s, x], argTypes := #[t, t] }) (hg : o.guard = none)
    {g n c : Nat} {vs : List Value} (hs : a.eval s = .slice (some ⟨g, 0, none⟩) n c) (hown : w.ownsRow W.heap.size e size (.slice (some ⟨g, 0, none⟩) n c) n vs)
    {B : Nat} {A' : Option Addr} {m c' : Nat} {ws : List Value} (hx : a.eval x = .slice A' m c') (hr : Rd w B A' (m * size) ws) (h1 : ∀ u ∈ ws, u.oneCell' = true) (hm : 0 < m) (hroom : n + m ≤ c) (hB : Below W.heap.size W w)
    (h : ∀ w2, w2.ownsRow W.heap.size e size (.slice (some ⟨g, 0, none⟩) (n + m) c) (n + m) (vs ++ ws) → Below W.heap.size W w2 → w.grownBy w2 (some g) → K (a.put o.dst (.slice (some ⟨g, 0, none⟩) (n + m) c)) w2) :
    if Region.wanted o (yielded ops a.tmps) = true then Oper.wp P o a w K Q else E := by
  have hw : Region.wanted o (yielded ops a.tmps) = true := by simp [Region.wanted, hg]
  rw [if_pos hw]
  obtain ⟨i, hi, hz, hsz, hbi⟩ := info_parts hT.info
  obtain ⟨ad, rfl, hnews⟩ := hr.news (Nat.mul_pos hm hT.pos)
  obtain ⟨w', hrun, h2, h3⟩ := run_append_fits (P := P) w W.heap.size t o.type e i size hT.under hi hsz g n c vs hown ad m c' ws hr.1 hnews h1 hroom
  have hlt := hown.lt
  have hB2 : Below W.heap.size W w' := hB.grown h3 hB.size (fun k hk => (hlt k hk).1)
  have hgo := h w' h2 hB2 h3
  unfold Oper.wp execOp
  simp only [ho, resolve, invoke, builtin, Sem.run_bind, Sem.run_pure, Result.andThen_ok, List.map_toArray, List.map_cons, List.map_nil, hs, hx, hrun]
  exact hgo
theorem wpList_append_fits {W w : World} (hT : CellS P t e z size bytes) {ops : Array Oper} {rest : List Oper} {o : Oper} {a : Act} {Q : Exit → Act → World → Prop} (s x : Operand)
    (ho : o.op = .call { callee := .builtin .append, args := #[s, x], argTypes := #[t, t] }) (hw : Region.wanted o (yielded ops a.tmps) = true)
    {g n c : Nat} {vs : List Value} (hs : a.eval s = .slice (some ⟨g, 0, none⟩) n c) (hown : w.ownsRow W.heap.size e size (.slice (some ⟨g, 0, none⟩) n c) n vs)
    {B : Nat} {A' : Option Addr} {m c' : Nat} {ws : List Value} (hx : a.eval x = .slice A' m c') (hr : Rd w B A' (m * size) ws) (h1 : ∀ u ∈ ws, u.oneCell' = true) (hm : 0 < m) (hroom : n + m ≤ c) (hB : Below W.heap.size W w)
    (h : ∀ w2, w2.ownsRow W.heap.size e size (.slice (some ⟨g, 0, none⟩) (n + m) c) (n + m) (vs ++ ws) → Below W.heap.size W w2 → w.grownBy w2 (some g) → wpList P ops Q rest (a.put o.dst (.slice (some ⟨g, 0, none⟩) (n + m) c)) w2) :
    wpList P ops Q (o :: rest) a w := by
  obtain ⟨i, hi, hz, hsz, hbi⟩ := info_parts hT.info
  obtain ⟨ad, rfl, hnews⟩ := hr.news (Nat.mul_pos hm hT.pos)
  obtain ⟨w', hrun, h2, h3⟩ := run_append_fits (P := P) w W.heap.size t o.type e i size hT.under hi hsz g n c vs hown ad m c' ws hr.1 hnews h1 hroom
  have hlt := hown.lt
  have hB2 : Below W.heap.size W w' := hB.grown h3 hB.size (fun k hk => (hlt k hk).1)
  have hgo := h w' h2 hB2 h3
  unfold wpList
  rw [if_pos hw]
  refine Or.inl ?_
  unfold Oper.wp execOp
  simp only [ho, resolve, invoke, builtin, Sem.run_bind, Sem.run_pure, Result.andThen_ok, List.map_toArray, List.map_cons, List.map_nil, hs, hx, hrun]
  exact hgo
end
/-- a row of the call's own, some of whose cells are written over -/
theorem own_written {w : World} {base g n c size n' : Nat} {e : TypeId} {vs vs' : List Value} (h : w.ownsRow base e size (.slice (some ⟨g, 0, none⟩) n c) n vs) (cs : Array Value) (hcs : cs.size = c * size) (hn : n' ≤ c) (hl : vs'.length = n' * size) (ht : cs.toList.take (n' * size) = vs') :
    (w.setRow g cs).ownsRow base e size (.slice (some ⟨g, 0, none⟩) n' c) n' vs' ∧ w.grownBy (w.setRow g cs) (some g) := by
  rcases h.2 with ⟨h1, _⟩ | ⟨g', cap, cur, hv, hb, hh, hnc, hm, hs, htk⟩
  · simp at h1
  · simp only [Value.slice.injEq, Option.some.injEq, Addr.mk.injEq, and_true, true_and] at hv
    obtain ⟨rfl, rfl⟩ := hv
    exact ⟨⟨hl, .inr ⟨g, c, cs, rfl, hb, setRow_heap w g cur _ e _ hh, hn, hm, hcs, ht⟩⟩, ⟨rfl, rfl, rfl, by simp, fun k _ hk => setRow_other w g k _ (fun e => hk (by simp [e]))⟩⟩
theorem own_cur {w : World} {base g n c size : Nat} {e : TypeId} {vs : List Value} (h : w.ownsRow base e size (.slice (some ⟨g, 0, none⟩) n c) n vs) : ∃ cur, Blk w g e cur ∧ cur.size = c * size ∧ cur.toList.take (n * size) = vs ∧ n ≤ c ∧ base ≤ g := by
  rcases h.2 with ⟨h1, _⟩ | ⟨g', cap, cur, hv, hb, hh, hnc, hm, hs, htk⟩
  · simp at h1
  · simp only [Value.slice.injEq, Option.some.injEq, Addr.mk.injEq, and_true, true_and] at hv
    obtain ⟨rfl, rfl⟩ := hv
    exact ⟨cur, hh, hs, htk, hnc, hb⟩
/-- copy into a block that is known -/
theorem run_copy_blk {P : Program} (w : World) (dT sT ty elem : TypeId) (g o dLen dCap : Nat) (a : Addr) (sLen sCap : Nat) (cur : Array Value) (t : TypeId) (cs : List Value) (size m : Nat)
    (hu : P.underlying dT = some (.slice elem)) (hs : (P.info? elem).map (·.size) = some size)
    (hg : Blk w g t cur) (hm : m = Nat.min sLen dLen) (hn : cs.length = m * size)
    (hsrc : ∀ j v, cs[j]? = some v → w.cell? (a.add j) = some v) (hfit : o + cs.length ≤ cur.size) (h1 : ∀ v ∈ cs, v.oneCell' = true) :
    (Builtin.copy_ #[dT, sT] ty #[.slice (some ⟨g, o, none⟩) dLen dCap, .slice (some a) sLen sCap]).run P w =
      .ok (.int .i64 (m : Int)) (w.setRow g (cur.toList.take o ++ cs ++ cur.toList.drop (o + cs.length)).toArray) := by
  have hl := run_loadCells_list (P := P) w a cs hsrc
  have hst := run_storeCells_at P g o t cs 0 cur w hg (by simpa using hfit) h1
  cases hq : P.info? elem with
  | none => simp [hq] at hs
  | some i =>
    have hi : i.size = size := by simpa [hq] using hs
    rw [hn] at hl
    simp only [Nat.add_zero] at hst
    simp [Builtin.copy_, run_underlying hu, Builtin.lenOf, Builtin.firstCells, sizeOf, typeInfo, hq, hi, ← hm, hl, hst, goInt]
/-- clear of one element -/
theorem run_clear_one {P : Program} (w : World) (t ty e : TypeId) (i : TypeInfo) (z : Value) (ht : P.underlying t = some (.slice e)) (hi : P.info? e = some i) (hz : i.zero = some z) (h1 : ∀ u ∈ z.cells.toList, u.oneCell' = true)
    (g o c : Nat) (cur : Array Value) (hg : Blk w g e cur) (hfit : o + z.cells.size ≤ cur.size) :
    (Builtin.clear_ #[t] ty #[.slice (some ⟨g, o, none⟩) 1 c]).run P w = .ok (.tuple #[]) (w.setRow g (cur.toList.take o ++ z.cells.toList ++ cur.toList.drop (o + z.cells.size)).toArray) := by
  have hzc : (Builtin.zeroCells z.cells 1).toList = z.cells.toList := by
    unfold Builtin.zeroCells
    apply List.ext_getElem?
    intro j
    rcases Nat.lt_or_ge j z.cells.size with hj | hj
    · simp [hj, Nat.mod_eq_of_lt hj]
    · simp [hj]
  have hst := run_storeCells_at P g o e z.cells.toList 0 cur w hg (by simpa using hfit) h1
  simp only [Nat.add_zero] at hst
  simp [Builtin.clear_, run_underlying ht, zeroValue, typeInfo, hi, hz, hzc, hst]
end Go.Proofs.YtaknfmionkkdjaaGreat

namespace Go.Proofs.YtaknfmionkkdjaaGreat
open Go.RowKit
set_option linter.unusedVariables false

theorem read_any {W w : World} {l : List Nat} {A : Option Addr} {n c B : Nat} (hn : Lim 0 n) (hr : Rd w B A n (bv l)) (hB : Below W.heap.size W w) :
    Calls Tryz.prog 97 #[.slice A n c] w (GotR W w 0 l 0) := by
  have H := Lib.hid hr.fit
  clear hr
  go_enter Tryz.func97, Tryz.ntmps97
  go_wp2_with (go_at_call 64; refine (clone_any (W := W) hn (H.out.alloc (Nat.le_refl _) _) (hB.alloc hB.size _)).mono ?_; rintro e w1 ⟨A1, c1, rfl, hown1, hB1, hb1⟩; have HK := Lib.hid ((Blk.new w 47 zeroR).below hb1); obtain ⟨x0, x1, x2, f0, f1, f2⟩ := three HK.out)
  obtain ⟨k1, k2, k3⟩ := put3 HK.out (.int .i64 0) (.slice A1 l.length c1) (.int .i64 0)
  refine bodyPost_ret (results_cell_row rfl _ _ _ _ _ _ _ rfl k1 Tryz.underlying47 rfl (by kernel_rfl)) rfl ?_
  exact ⟨A1, c1, rfl, k3 _ _ _ _ _ _ hown1 (by decide), k2 W hB.size hB1, k2 w (Nat.le_refl _) (((Below.refl _ _).alloc (Nat.le_refl _) _).trans (hb1.mono (by simp)))⟩
theorem write_any {W w : World} {s v : List Nat} {A A' : Option Addr} {n c n' c' B B' : Nat} (hn : Lim 0 n) (hn' : Lim 0 n') (hr : Rd w B A n (bv s)) (hr' : Rd w B' A' n' (bv v)) (hB : Below W.heap.size W w) :
    Calls Tryz.prog 98 #[.slice A n c, .slice A' n' c'] w (GotSR W w (if v.length ≤ 16 then v else s) (if v.length ≤ 16 then 0 else 1) [] 0) := by
  have HL := Lib.hid hr'.length
  have H := Lib.hid hr.fit
  have H' := Lib.hid hr'.fit
  by_cases hle : n' ≤ 16
  · rw [if_pos (by have := HL.out; omega), if_pos (by have := HL.out; omega)]
    clear hr hr'
    go_enter Tryz.func98, Tryz.ntmps98
    go_wp2_with (go_at_call 64; refine (clone_any (W := W) hn' (H'.out.alloc (Nat.le_refl _) _) (hB.alloc hB.size _)).mono ?_; rintro e w1 ⟨A1, c1, rfl, hown1, hB1, hb1⟩; have HK := Lib.hid ((Blk.new w 47 zeroR).below hb1); obtain ⟨x0, x1, x2, f0, f1, f2⟩ := three HK.out)
    obtain ⟨k1, k2, k3⟩ := put3 HK.out (.int .i64 0) (.slice none 0 0) (.int .i64 0)
    refine bodyPost_ret (results_tmp_cell_row rfl _ _ _ _ _ _ rfl k1 Tryz.underlying47 rfl (by kernel_rfl)) rfl ?_
    exact ⟨A1, c1, none, 0, rfl, k3 _ _ _ _ _ _ hown1 (by decide), own_nil _ _, k2 W hB.size hB1, k2 w (Nat.le_refl _) (((Below.refl _ _).alloc (Nat.le_refl _) _).trans (hb1.mono (by simp)))⟩
  · rw [if_neg (by have := HL.out; omega), if_neg (by have := HL.out; omega)]
    clear hr hr'
    go_enter Tryz.func98, Tryz.ntmps98
    go_wp2_with (go_at_call 64; refine (clone_any (W := W) hn (H.out.alloc (Nat.le_refl _) _) (hB.alloc hB.size _)).mono ?_; rintro e w1 ⟨A1, c1, rfl, hown1, hB1, hb1⟩; have HK := Lib.hid ((Blk.new w 47 zeroR).below hb1); obtain ⟨x0, x1, x2, f0, f1, f2⟩ := three HK.out)
    obtain ⟨k1, k2, k3⟩ := put3 HK.out (.int .i64 1) (.slice none 0 0) (.int .i64 0)
    refine bodyPost_ret (results_tmp_cell_row rfl _ _ _ _ _ _ rfl k1 Tryz.underlying47 rfl (by kernel_rfl)) rfl ?_
    exact ⟨A1, c1, none, 0, rfl, k3 _ _ _ _ _ _ hown1 (by decide), own_nil _ _, k2 W hB.size hB1, k2 w (Nat.le_refl _) (((Below.refl _ _).alloc (Nat.le_refl _) _).trans (hb1.mono (by simp)))⟩
set_option maxRecDepth 100000 in
theorem cas_long {W w : World} {s v : List Nat} {A A' A2 : Option Addr} {n c n' c' n2 c2 B B' : Nat} (hn : Lim 0 n) (hn' : Lim 0 n') (hr : Rd w B A n (bv s)) (hr' : Rd w B' A' n' (bv v)) (hB : Below W.heap.size W w) (hlt : 16 < v.length) :
    Calls Tryz.prog 99 #[.slice A n c, .slice A2 n2 c2, .slice A' n' c'] w (GotSR W w s 1 [] 0) := by
  have H := Lib.hid hr.fit
  have H' := Lib.hid hr'.fit
  clear hr hr'
  go_enter Tryz.func99, Tryz.ntmps99
  go_wp2_with (go_at_call 98; refine (write_any (W := W) hn hn' (H.out.alloc (Nat.le_refl _) _) (H'.out.alloc (Nat.le_refl _) _) (hB.alloc hB.size _)).mono ?_; rw [if_neg (by omega), if_neg (by omega)]; rintro e w1 ⟨A1, c1, A3, c3, rfl, hown1, hown2, hB1, hb1⟩; unfold resV; have HK := Lib.hid ((Blk.new w 47 zeroR).below hb1); obtain ⟨x0, x1, x2, f0, f1, f2⟩ := three HK.out)
  have HK' := Lib.hid (HK.out.alloc (.cells #[.int .i64 1, .slice A3 0 c3, .int .i64 0] 47))
  obtain ⟨y0, y1, y2, h0, h1, h2⟩ := three HK'.out
  have hbw : Below w.heap.size w w1 := ((Below.refl _ _).alloc (Nat.le_refl _) _).trans (hb1.mono (by simp))
  go_region
  go_wp2
  obtain ⟨k1, k2, k3⟩ := put3 HK'.out (.int .i64 1) (.slice A3 0 c3) (.int .i64 0)
  refine bodyPost_ret (results_tmp_cell_row rfl _ _ _ _ _ _ rfl k1.drew Tryz.underlying47 rfl (by kernel_rfl)) rfl ?_
  exact ⟨A1, c1, A3, c3, rfl, k3 _ _ _ _ _ _ (own_below hown1 ((Below.refl _ _).alloc (Nat.le_refl _) _)) (by decide), k3 _ _ _ _ _ _ (own_below hown2 ((Below.refl _ _).alloc (Nat.le_refl _) _)) (by decide), (k2 W hB.size (hB1.alloc hB1.size _)).drew, (k2 w (Nat.le_refl _) (hbw.alloc hbw.size _)).drew⟩
set_option maxRecDepth 100000 in
theorem cas_same {W w : World} {s v : List Nat} {A A' A2 : Option Addr} {n c n' c' n2 c2 B B' B2 : Nat} (hn : Lim 0 n) (hn' : Lim 0 n') (hs : ∀ x ∈ s, x < 256) (hr : Rd w B A n (bv s)) (hr' : Rd w B' A' n' (bv v)) (hr2 : Rd w B2 A2 n2 (bv s)) (hB : Below W.heap.size W w) (hle : v.length ≤ 16) :
    Calls Tryz.prog 99 #[.slice A n c, .slice A2 n2 c2, .slice A' n' c'] w (GotSR W w v 0 [] 0) := by
  have H := Lib.hid hr.fit
  have H' := Lib.hid hr'.fit
  have H2 := Lib.hid hr2.fit
  have HS := Lib.hid hs
  clear hr hr' hr2 hs
  go_enter Tryz.func99, Tryz.ntmps99
  go_wp2_with (first
    | (go_at_call 98; refine (write_any (W := W) hn hn' (H.out.alloc (Nat.le_refl _) _) (H'.out.alloc (Nat.le_refl _) _) (hB.alloc hB.size _)).mono ?_; rw [if_pos (by omega), if_pos (by omega)]; rintro e w1 ⟨A1, c1, A3, c3, rfl, hown1, hown2, hB1, hb1⟩; unfold resV; have HK := Lib.hid ((Blk.new w 47 zeroR).below hb1); obtain ⟨x0, x1, x2, f0, f1, f2⟩ := three HK.out
       have hbw : Below w.heap.size w w1 := ((Below.refl _ _).alloc (Nat.le_refl _) _).trans (hb1.mono (by simp)))
    | (go_at_call 115; refine (equal_any _ _ _ _ _ _ _ _ _ _ _ HS.out HS.out ((H.out.below hbw).alloc hbw.size _) ((H2.out.below hbw).alloc hbw.size _)).mono ?_; rw [decide_eq_true (show s = s from rfl)]; rintro e w2 ⟨rfl, rfl⟩))
  have HK' := Lib.hid (HK.out.alloc (.cells #[.int .i64 0, .slice A3 0 c3, .int .i64 0] 47))
  obtain ⟨y0, y1, y2, h0, h1, h2⟩ := three HK'.out
  go_region
  go_wp2
  obtain ⟨k1, k2, k3⟩ := put3 HK'.out (.int .i64 0) (.slice A3 0 c3) (.int .i64 0)
  refine bodyPost_ret (results_tmp_cell_row rfl _ _ _ _ _ _ rfl k1.drew Tryz.underlying47 rfl (by kernel_rfl)) rfl ?_
  exact ⟨A1, c1, A3, c3, rfl, k3 _ _ _ _ _ _ (own_below hown1 ((Below.refl _ _).alloc (Nat.le_refl _) _)) (by decide), k3 _ _ _ _ _ _ (own_below hown2 ((Below.refl _ _).alloc (Nat.le_refl _) _)) (by decide), (k2 W hB.size (hB1.alloc hB1.size _)).drew, (k2 w (Nat.le_refl _) (hbw.alloc hbw.size _)).drew⟩
set_option maxRecDepth 100000 in
theorem cas_other {W w : World} {s v old : List Nat} {A A' A2 : Option Addr} {n c n' c' n2 c2 B B' B2 : Nat} (hn : Lim 0 n) (hn' : Lim 0 n') (hs : ∀ x ∈ s, x < 256) (ho : ∀ x ∈ old, x < 256) (hr : Rd w B A n (bv s)) (hr' : Rd w B' A' n' (bv v)) (hr2 : Rd w B2 A2 n2 (bv old)) (hB : Below W.heap.size W w) (hle : v.length ≤ 16) (hne : s ≠ old) :
    Calls Tryz.prog 99 #[.slice A n c, .slice A2 n2 c2, .slice A' n' c'] w (GotSR W w s 2 s 0) := by
  have H := Lib.hid hr.fit
  have H' := Lib.hid hr'.fit
  have H2 := Lib.hid hr2.fit
  have HS := Lib.hid hs
  have HO := Lib.hid ho
  have HN := Lib.hid (decide_eq_false hne)
  clear hr hr' hr2 hs ho hne
  go_enter Tryz.func99, Tryz.ntmps99
  go_wp2_with (first
    | (go_at_call 98; refine (write_any (W := W) hn hn' (H.out.alloc (Nat.le_refl _) _) (H'.out.alloc (Nat.le_refl _) _) (hB.alloc hB.size _)).mono ?_; rw [if_pos (by omega), if_pos (by omega)]; rintro e w1 ⟨A1, c1, A3, c3, rfl, hown1, hown2, hB1, hb1⟩; unfold resV; have HK := Lib.hid ((Blk.new w 47 zeroR).below hb1); obtain ⟨x0, x1, x2, f0, f1, f2⟩ := three HK.out
       have hbw : Below w.heap.size w w1 := ((Below.refl _ _).alloc (Nat.le_refl _) _).trans (hb1.mono (by simp)))
    | (go_at_call 115; refine (equal_any _ _ _ _ _ _ _ _ _ _ _ HS.out HO.out ((H.out.below hbw).alloc hbw.size _) ((H2.out.below hbw).alloc hbw.size _)).mono ?_; rw [HN.out]; rintro e w2 ⟨rfl, rfl⟩)
    | (go_at_call 97; refine (read_any (W := W) hn ((H.out.below hbw).alloc hbw.size _) (hB1.alloc hB1.size _)).mono ?_; rintro e w2 ⟨A4, c4, rfl, hown4, hB2, hb2⟩; unfold resV; have HL := Lib.hid ((Blk.new w1 47 _).below hb2); have HK2 := Lib.hid ((HK.out.alloc _).below hb2); obtain ⟨y0, y1, y2, h0, h1, h2⟩ := three HL.out))
  obtain ⟨k1, k2, k3⟩ := put3 HL.out (.int .i64 0) (.slice A4 s.length c4) (.int .i64 0)
  have HL3 := Lib.hid (k1.set_ 0 (.int .i64 2))
  have ho3 := own_set_t (i := 0) (u := .int .i64 2) (k3 _ _ _ _ _ _ hown4 (by decide)) k1 (by decide)
  have hne : w.heap.size ≠ w1.heap.size := by have := HK.out.lt; omega
  have HK3 := Lib.hid ((((HK2.out.set_other (i := 0) (u := .int .i64 0) hne).set_other (i := 1) (u := .slice A4 s.length c4) hne).set_other (i := 2) (u := .int .i64 0) hne).set_other (i := 0) (u := .int .i64 2) hne)
  have hB3 := (k2 W hB1.size hB2).setCell (p := ⟨w1.heap.size, 0, none⟩) hB1.size (.int .i64 2)
  have hb3 := (k2 w hbw.size ((hbw.alloc hbw.size _).trans (hb2.mono (by have := hbw.size; simp; omega)))).setCell (p := ⟨w1.heap.size, 0, none⟩) hbw.size (.int .i64 2)
  clear k1 k2 k3 x0 x1 x2 f0 f1 f2 y0 y1 y2 h0 h1 h2 HK2 HL hown4 hb2
  generalize hw3 : ((((w2.setCell ⟨w1.heap.size, 0, none⟩ (.int .i64 0)).setCell ⟨w1.heap.size, 1, none⟩ (.slice A4 s.length c4)).setCell ⟨w1.heap.size, 2, none⟩ (.int .i64 0)).setCell ⟨w1.heap.size, 0, none⟩ (.int .i64 2)) = w3 at *
  obtain ⟨x0, x1, x2, f0, f1, f2⟩ := three HL3.out
  clear hw3
  go_region_with (go_at_call 64; refine (clone_any (W := W) hn (H.out.below hb3).drew hB3.drew).mono ?_; rintro e w4 ⟨A5, c5, rfl, hown5, hB5, hb5⟩; have HK5 := Lib.hid (HK3.out.drew.below hb5); have HL5 := Lib.hid (HL3.out.drew.below hb5); obtain ⟨y0, y1, y2, h0, h1, h2⟩ := three HL5.out; obtain ⟨u0, u1, u2, g0, g1, g2⟩ := three HK5.out)
  all_goals go_wp2
  all_goals
    obtain ⟨k1, k2, k3⟩ := put3 HK5.out (.int .i64 2) (.slice A4 s.length c4) (.int .i64 0)
    refine bodyPost_ret (results_tmp_cell_row rfl _ _ _ _ _ _ rfl k1 Tryz.underlying47 rfl (by kernel_rfl)) rfl ?_
    exact ⟨A5, c5, A4, c4, rfl, k3 _ _ _ _ _ _ hown5 (by decide), k3 _ _ _ _ _ _ (ownsRow_below (w := w3.drew) ho3 hb5) (by decide), k2 W hB.size hB5, k2 w (Nat.le_refl _) (hb3.drew.trans (hb5.mono hb3.size))⟩
theorem cas_any {W w : World} {s v old : List Nat} {A A' A2 : Option Addr} {n c n' c' n2 c2 B B' B2 : Nat} (hn : Lim 0 n) (hn' : Lim 0 n') (hs : ∀ x ∈ s, x < 256) (ho : ∀ x ∈ old, x < 256) (hr : Rd w B A n (bv s)) (hr' : Rd w B' A' n' (bv v)) (hr2 : Rd w B2 A2 n2 (bv old)) (hB : Below W.heap.size W w) :
    Calls Tryz.prog 99 #[.slice A n c, .slice A2 n2 c2, .slice A' n' c'] w (GotSR W w (casS s old v) (casE s old v) (casV s old v) 0) := by
  unfold casS casE casV
  by_cases hlt : 16 < v.length
  · rw [if_pos hlt, if_pos hlt, if_pos hlt]; exact cas_long hn hn' hr hr' hB hlt
  · rw [if_neg hlt, if_neg hlt, if_neg hlt]
    by_cases he : s = old
    · subst he
      rw [if_pos rfl, if_pos rfl, if_pos rfl]; exact cas_same hn hn' hs hr hr' hr2 hB (by omega)
    · rw [if_neg he, if_neg he, if_neg he]; exact cas_other hn hn' hs ho hr hr' hr2 hB (by omega) he
end Go.Proofs.YtaknfmionkkdjaaGreat

