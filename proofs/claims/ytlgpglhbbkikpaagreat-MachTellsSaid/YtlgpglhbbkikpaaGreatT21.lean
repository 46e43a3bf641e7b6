/- InPlaceKit FifoWalks ObjsCopy LockC0 LockWalks LockWalks2 ObjsCopied SessCodeM -/
import Derived.Test.YtlgpglhbbkikpaaGreatT00
import Derived.Test.YtlgpglhbbkikpaaGreatT01
import Derived.Test.YtlgpglhbbkikpaaGreatT03
import Derived.Test.YtlgpglhbbkikpaaGreatT07
import Derived.Test.YtlgpglhbbkikpaaGreatT10
import Derived.Test.YtlgpglhbbkikpaaGreatT11
import Derived.Test.YtlgpglhbbkikpaaGreatT12
import Derived.Test.YtlgpglhbbkikpaaGreatT17
import Derived.Laws.CopyRow
namespace Go.Proofs.YtlgpglhbbkikpaaGreat
open Go.RowKit
set_option linter.unusedVariables false
theorem adr_add (g o j : Nat) : (⟨g, o, none⟩ : Addr).add j = ⟨g, o + j, none⟩ := by unfold Addr.add; split <;> simp_all
section
variable {P : Program} {t e : TypeId} {z : Value} {size bytes : Nat}
theorem Rd.news {w : World} {B n : Nat} {A : Option Addr} {vs : List Value} (h : Rd w B A n vs) (hn : 0 < n) : ∃ a, A = some a /\ ∀ j u, vs[j]? = some u -> w.cell? (a.add j) = some u := by
 obtain ⟨b, o, rfl, _, hc⟩ := h.2 hn
 refine ⟨_, rfl, fun j u hu => ?_⟩
 have hj : j < n := by have := (List.getElem?_eq_some_iff.1 hu).1; rw [h.1] at this; exact this
 rw [adr_add, hc j hj, hu]
theorem step_append_fits {W w : World} (hT : CellS P t e z size bytes) {ops : Array Oper} {o : Oper} {a : Act} {K : Act -> World -> Prop} {Q : Exit -> Act -> World -> Prop} {E : Prop} (s x : Operand)
 (ho : o.op = .call { callee := .builtin .append, args := #[s, x], argTypes := #[t, t] }) (hg : o.guard = none)
 {g n c : Nat} {vs : List Value} (hs : a.eval s = .slice (some ⟨g, 0, none⟩) n c) (hown : w.ownsRow W.heap.size e size (.slice (some ⟨g, 0, none⟩) n c) n vs)
 {B : Nat} {A' : Option Addr} {m c' : Nat} {ws : List Value} (hx : a.eval x = .slice A' m c') (hr : Rd w B A' (m * size) ws) (h1 : ∀ u ∈ ws, u.oneCell' = true) (hm : 0 < m) (hroom : n + m <= c) (hB : Below W.heap.size W w)
 (h : ∀ w2, w2.ownsRow W.heap.size e size (.slice (some ⟨g, 0, none⟩) (n + m) c) (n + m) (vs ++ ws) -> Below W.heap.size W w2 -> w.grownBy w2 (some g) -> K (a.put o.dst (.slice (some ⟨g, 0, none⟩) (n + m) c)) w2) :
 if Region.wanted o (yielded ops a.tmps) = true then Oper.wp P o a w K Q else E := by
 have hw : Region.wanted o (yielded ops a.tmps) = true := by simp [Region.wanted, hg]
 rw [if_pos hw]
 obtain ⟨i, hi, hz, hsz, hbi⟩ := info_parts hT.info
 obtain ⟨ad, rfl, hnews⟩ := hr.news (Nat.mul_pos hm hT.pos)
 obtain ⟨w', hrun, h2, h3⟩ := run_append_fits (P := P) w W.heap.size t o.type e i size hT.under hi hsz g n c vs hown ad m c' ws hr.1 hnews h1 hroom
 have hlt := hown.lt
 have hB2 : Below W.heap.size W w' := hB.grown h3 hB.size (fun k hk => (hlt k hk).1)
 have hgo := h w' h2 hB2 h3
 unfold Oper.wp execOp
 simp only [ho, resolve, invoke, builtin, Sem.run_bind, Sem.run_pure, Result.andThen_ok, List.map_toArray, List.map_cons, List.map_nil, hs, hx, hrun]
 exact hgo
theorem wpList_append_fits {W w : World} (hT : CellS P t e z size bytes) {ops : Array Oper} {rest : List Oper} {o : Oper} {a : Act} {Q : Exit -> Act -> World -> Prop} (s x : Operand)
 (ho : o.op = .call { callee := .builtin .append, args := #[s, x], argTypes := #[t, t] }) (hw : Region.wanted o (yielded ops a.tmps) = true)
 {g n c : Nat} {vs : List Value} (hs : a.eval s = .slice (some ⟨g, 0, none⟩) n c) (hown : w.ownsRow W.heap.size e size (.slice (some ⟨g, 0, none⟩) n c) n vs)
 {B : Nat} {A' : Option Addr} {m c' : Nat} {ws : List Value} (hx : a.eval x = .slice A' m c') (hr : Rd w B A' (m * size) ws) (h1 : ∀ u ∈ ws, u.oneCell' = true) (hm : 0 < m) (hroom : n + m <= c) (hB : Below W.heap.size W w)
 (h : ∀ w2, w2.ownsRow W.heap.size e size (.slice (some ⟨g, 0, none⟩) (n + m) c) (n + m) (vs ++ ws) -> Below W.heap.size W w2 -> w.grownBy w2 (some g) -> wpList P ops Q rest (a.put o.dst (.slice (some ⟨g, 0, none⟩) (n + m) c)) w2) :
 wpList P ops Q (o :: rest) a w := by
 obtain ⟨i, hi, hz, hsz, hbi⟩ := info_parts hT.info
 obtain ⟨ad, rfl, hnews⟩ := hr.news (Nat.mul_pos hm hT.pos)
 obtain ⟨w', hrun, h2, h3⟩ := run_append_fits (P := P) w W.heap.size t o.type e i size hT.under hi hsz g n c vs hown ad m c' ws hr.1 hnews h1 hroom
 have hlt := hown.lt
 have hB2 : Below W.heap.size W w' := hB.grown h3 hB.size (fun k hk => (hlt k hk).1)
 have hgo := h w' h2 hB2 h3
 unfold wpList
 rw [if_pos hw]
 refine Or.inl ?_
 unfold Oper.wp execOp
 simp only [ho, resolve, invoke, builtin, Sem.run_bind, Sem.run_pure, Result.andThen_ok, List.map_toArray, List.map_cons, List.map_nil, hs, hx, hrun]
 exact hgo
end
theorem own_written {w : World} {base g n c size n' : Nat} {e : TypeId} {vs vs' : List Value} (h : w.ownsRow base e size (.slice (some ⟨g, 0, none⟩) n c) n vs) (cs : Array Value) (hcs : cs.size = c * size) (hn : n' <= c) (hl : vs'.length = n' * size) (ht : cs.toList.take (n' * size) = vs') :
 (w.setRow g cs).ownsRow base e size (.slice (some ⟨g, 0, none⟩) n' c) n' vs' /\ w.grownBy (w.setRow g cs) (some g) := by
 rcases h.2 with ⟨h1, _⟩ | ⟨g', cap, cur, hv, hb, hh, hnc, hm, hs, htk⟩
 · simp at h1
 · simp only [Value.slice.injEq, Option.some.injEq, Addr.mk.injEq, and_true, true_and] at hv
   obtain ⟨rfl, rfl⟩ := hv
   exact ⟨⟨hl, .inr ⟨g, c, cs, rfl, hb, setRow_heap w g cur _ e _ hh, hn, hm, hcs, ht⟩⟩, ⟨rfl, rfl, rfl, by simp, fun k _ hk => setRow_other w g k _ (fun e => hk (by simp [e]))⟩⟩
theorem own_cur {w : World} {base g n c size : Nat} {e : TypeId} {vs : List Value} (h : w.ownsRow base e size (.slice (some ⟨g, 0, none⟩) n c) n vs) : ∃ cur, Blk w g e cur /\ cur.size = c * size /\ cur.toList.take (n * size) = vs /\ n <= c /\ base <= g := by
 rcases h.2 with ⟨h1, _⟩ | ⟨g', cap, cur, hv, hb, hh, hnc, hm, hs, htk⟩
 · simp at h1
 · simp only [Value.slice.injEq, Option.some.injEq, Addr.mk.injEq, and_true, true_and] at hv
   obtain ⟨rfl, rfl⟩ := hv
   exact ⟨cur, hh, hs, htk, hnc, hb⟩
theorem run_copy_blk {P : Program} (w : World) (dT sT ty elem : TypeId) (g o dLen dCap : Nat) (a : Addr) (sLen sCap : Nat) (cur : Array Value) (t : TypeId) (cs : List Value) (size m : Nat)
 (hu : P.underlying dT = some (.slice elem)) (hs : (P.info? elem).map (·.size) = some size)
 (hg : Blk w g t cur) (hm : m = Nat.min sLen dLen) (hn : cs.length = m * size)
 (hsrc : ∀ j v, cs[j]? = some v -> w.cell? (a.add j) = some v) (hfit : o + cs.length <= cur.size) (h1 : ∀ v ∈ cs, v.oneCell' = true) :
 (Builtin.copy_ #[dT, sT] ty #[.slice (some ⟨g, o, none⟩) dLen dCap, .slice (some a) sLen sCap]).run P w =
   .ok (.int .i64 (m : Int)) (w.setRow g (cur.toList.take o ++ cs ++ cur.toList.drop (o + cs.length)).toArray) := by
 have hl := run_loadCells_list (P := P) w a cs hsrc
 have hst := run_storeCells_at P g o t cs 0 cur w hg (by simpa using hfit) h1
 cases hq : P.info? elem with
 | none => simp [hq] at hs
 | some i =>
   have hi : i.size = size := by simpa [hq] using hs
   rw [hn] at hl
   simp only [Nat.add_zero] at hst
   simp [Builtin.copy_, run_underlying hu, Builtin.lenOf, Builtin.firstCells, sizeOf, typeInfo, hq, hi, <- hm, hl, hst, goInt]
theorem run_clear_one {P : Program} (w : World) (t ty e : TypeId) (i : TypeInfo) (z : Value) (ht : P.underlying t = some (.slice e)) (hi : P.info? e = some i) (hz : i.zero = some z) (h1 : ∀ u ∈ z.cells.toList, u.oneCell' = true)
 (g o c : Nat) (cur : Array Value) (hg : Blk w g e cur) (hfit : o + z.cells.size <= cur.size) :
 (Builtin.clear_ #[t] ty #[.slice (some ⟨g, o, none⟩) 1 c]).run P w = .ok (.tuple #[]) (w.setRow g (cur.toList.take o ++ z.cells.toList ++ cur.toList.drop (o + z.cells.size)).toArray) := by
 have hzc : (Builtin.zeroCells z.cells 1).toList = z.cells.toList := by
  unfold Builtin.zeroCells
  apply List.ext_getElem?
  intro j
  rcases Nat.lt_or_ge j z.cells.size with hj | hj
  · simp [hj, Nat.mod_eq_of_lt hj]
  · simp [hj]
 have hst := run_storeCells_at P g o e z.cells.toList 0 cur w hg (by simpa using hfit) h1
 simp only [Nat.add_zero] at hst
 simp [Builtin.clear_, run_underlying ht, zeroValue, typeInfo, hi, hz, hzc, hst]
theorem Blk.far {w w' : World} {g n c base' size' : Nat} {t e' : TypeId} {cs : Array Value} {A' : Option Addr} {xs' : List Value} (h : Blk w g t cs) (ho : w.ownsRow base' e' size' (.slice A' n c) n xs') (hne : t ≠ e') (hg : w.grownBy w' (Value.slice A' n c).ownBlock) : Blk w' g t cs := by
 refine h.grown hg ?_
 rcases own_blk ho with ⟨q1, _, _⟩ | ⟨g', cur', q1, _, hk'⟩
 · rw [q1]; intro h0; cases h0
 · rw [q1]; intro h0
   have h3 : g = g' := by simpa [Value.ownBlock] using h0
   exact Blk.apart h hk' hne h3
set_option maxRecDepth 100000 in
theorem copied_raw (qs : List (List Nat)) (A : Option Addr) (n c B : Nat) (hn : n <= 100000) (hL : LimL qs) (w : World) (hr : RdQ w B A n qs) :
 Calls Tryz.prog 139 #[.slice A n c] w (GotQ w w qs) := by
 have HL := hD hL
 have HR := hD hr.fit
 have hlen := hr.length
 obtain ⟨i0, hi0, hi1, hi2, hi3⟩ := info_parts cellQ.info
 clear hr hL
 go_enter Tryz.func139, Tryz.ntmps139
 go_wp2_with (first
  | (at_make
     refine wpList_make_own w rfl _ _ 30 rfl w.heap.size 24 i0 _ 1 Tryz.underlying30 hi0 hi1 hi2 _ _ _ (n + 1) rfl rfl (by push_cast; rfl) (by rw [hi3]; omega) (by unfold maxLen; omega) lR ?_
     intro w0 hown0 hg0)
  | fail)
 go_loopw [3, 12] (fun s3 s12 wr => ∃ (k c' : Nat) (A' : Option Addr), k <= n /\ s12 = .int .i64 (k : Int) /\ s3 = .slice A' k c' /\ Hid (OwnQ w wr A' k c' (qs.take k)) /\ Hid (Below w.heap.size w wr)) (fun _ s12 _ => n - (intOf s12).toNat)
 case atStart => exact ⟨0, _, _, Nat.zero_le _, rfl, rfl, hD ⟨[], hown0, by simpa using Owns.nil w w0⟩, hD ((Below.refl _ _).grown hg0 lR (fun k hk => by cases hk))⟩
 case round =>
  obtain ⟨k, c', A', hk, rfl, rfl, HO, HB⟩ := hrel
  by_cases hlt : k < n
  · obtain ⟨b, o, l, A1, c1, rfl, hl, hcell, hrd⟩ := (HR.out.below HB.out).at hlt
    have hll : Lim 0 l.length := HL.out l (List.mem_of_getElem? hl)
    have HRD := hD hrd
    have HLL := hD hl
    clear hrd hl
    go_wp2_with (first
     | (go_at_call 40; refine (clone_any (W := w) hll HRD.out HB.out).mono ?_; rintro e w1 ⟨A2, c2, rfl, ho2, hB2, hb2⟩; obtain ⟨vs, hv1, hv2⟩ := HO.out.below hb2)
     | (at_builtin
        refine wpList_append_cells (W := w) cellQ (.tmp 16) (.tmp 19) rfl (by rfl) rfl (ownsRow_below hv1 ((Below.refl _ _).alloc lR _)) rfl (Rd.oneV _ _ _) (by intro u hu; simp at hu; subst hu; rfl) (by omega) (by omega) (hB2.alloc hB2.size _) ?_
        intro A3 c3 w3 hown3 hB3 hg3)
     | fail)
    go_roundw
    case rel =>
     refine ⟨k + 1, c3, A3, by omega, by go_num, rfl, hD ?_, hD hB3⟩
     have b1 : Below w1.heap.size w1 (w1.alloc (.cells #[.slice A2 l.length c2] 24)) := (Below.refl _ _).alloc lR _
     refine ⟨vs ++ [.slice A2 l.length c2], hown3, ?_⟩
     rw [List.take_add_one, HLL.out]
     exact ((hv2.snoc ho2).below b1).grown (ownsRow_below hv1 b1) hg3
    case measure => simp only [intOf]; omega
  · obtain rfl : k = n := by omega
    go_wp2_with fail
    go_ret
    have HO2 := HO.out
    rw [List.take_of_length_le (by omega)] at HO2
    subst hlen
    exact ⟨A', c', rfl, HO2, HB.out, HB.out⟩
theorem copied_any {W w : World} {qs : List (List Nat)} {A : Option Addr} {n c B : Nat} (hn : n <= 100000) (hL : LimL qs) (hr : RdQ w B A n qs) (hB : Below W.heap.size W w) :
 Calls Tryz.prog 139 #[.slice A n c] w (GotQ W w qs) :=
 (copied_raw qs A n c B hn hL w hr).mono fun e w' h => GotQ.of hB h
set_option maxRecDepth 100000 in
theorem push_raw {w : World} {qs : List (List Nat)} {v : List Nat} {A A' : Option Addr} {n c n' c' B B' : Nat} (hn : n <= 100000) (hL : LimL qs) (hn' : Lim 0 n') (hr : RdQ w B A n qs) (hr' : Rd w B' A' n' (bv v)) :
 Calls Tryz.prog 83 #[.slice A n c, .slice A' n' c'] w (GotQR w w (pushS qs v) (pushE qs v) [] (pushN qs v)) := by
 have hB := Below.refl w.heap.size w
 have HL := hD hL
 have HR := hD hr.fit
 have HR' := hD hr'.fit
 obtain rfl := hr.length
 obtain rfl := hr'.length
 have b0 : Below w.heap.size w (w.alloc (.cells zeroR 41)) := (Below.refl _ _).alloc lR _
 clear hr hr' hL
 unfold pushS pushE pushN
 by_cases hlt : 16 < v.length
 · rw [if_pos hlt, if_pos hlt, if_pos hlt]
   go_enter Tryz.func83, Tryz.ntmps83
   go_wp2_with (first
    | (go_at_call 139; refine (copied_any (W := w) hn HL.out (HR.out.below b0) (hB.alloc hB.size _)).mono ?_; rintro e w1 ⟨A1, c1, rfl, ho1, hB1, hb1⟩; have HK := hD ((Blk.new w 41 zeroR).below hb1); obtain ⟨x0, x1, x2, f0, f1, f2⟩ := three HK.out)
    | fail)
   obtain ⟨k1, k2, k3⟩ := put3 HK.out (.int .i64 1) (.slice none 0 0) (.int .i64 0)
   have hbw : Below w.heap.size w w1 := b0.trans (hb1.mono (by simp))
   refine bodyPost_ret (results_tmp_cell_row rfl _ _ _ _ _ _ rfl k1 Tryz.underlying41 rfl (by kernel_rfl)) rfl ?_
   exact ⟨A1, c1, none, 0, rfl, ho1.put3 HK.out (by decide) (by decide) _ _ _, own_nil _ _, k2 w lR hB1, k2 w lR hbw⟩
 · rw [if_neg hlt, if_neg hlt, if_neg hlt]
   by_cases hf : 8 <= qs.length
   · rw [if_pos hf, if_pos hf, if_pos hf]
     go_enter Tryz.func83, Tryz.ntmps83
     go_wp2_with (first
      | (go_at_call 139; refine (copied_any (W := w) hn HL.out (HR.out.below b0) (hB.alloc hB.size _)).mono ?_; rintro e w1 ⟨A1, c1, rfl, ho1, hB1, hb1⟩; have HK := hD ((Blk.new w 41 zeroR).below hb1); obtain ⟨x0, x1, x2, f0, f1, f2⟩ := three HK.out)
      | fail)
     obtain ⟨k1, k2, k3⟩ := put3 HK.out (.int .i64 3) (.slice none 0 0) (.int .i64 0)
     have hbw : Below w.heap.size w w1 := b0.trans (hb1.mono (by simp))
     refine bodyPost_ret (results_tmp_cell_row rfl _ _ _ _ _ _ rfl k1 Tryz.underlying41 rfl (by kernel_rfl)) rfl ?_
     exact ⟨A1, c1, none, 0, rfl, ho1.put3 HK.out (by decide) (by decide) _ _ _, own_nil _ _, k2 w lR hB1, k2 w lR hbw⟩
   · rw [if_neg hf, if_neg hf, if_neg hf]
     go_enter Tryz.func83, Tryz.ntmps83
     go_wp2_with (first
      | (go_at_call 139; refine (copied_any (W := w) hn HL.out (HR.out.below b0) (hB.alloc hB.size _)).mono ?_; rintro e w1 ⟨A1, c1, rfl, ho1, hB1, hb1⟩; have hbw : Below w.heap.size w w1 := b0.trans (hb1.mono (by simp)))
      | (go_at_call 40; refine (clone_any (W := w) hn' (HR'.out.below hbw) hB1).mono ?_; rintro e w2 ⟨A2, c2, rfl, ho2, hB2, hb2⟩; obtain ⟨vs, hv1, hv2⟩ := ho1.below hb2)
      | (at_builtin
         refine wpList_append_cells (W := w) cellQ (.tmp 19) (.tmp 22) rfl (by rfl) rfl (ownsRow_below hv1 ((Below.refl _ _).alloc lR _)) rfl (Rd.oneV _ _ _) (by intro u hu; simp at hu; subst hu; rfl) (by omega) (by omega) (hB2.alloc hB2.size _) ?_
         intro A3 c3 w3 hown3 hB3 hg3
         have b1 : Below w2.heap.size w2 (w2.alloc (.cells #[.slice A2 v.length c2] 24)) := (Below.refl _ _).alloc lR _
         have HQ : Hid (OwnQ w w3 A3 (qs.length + 1) c3 (qs ++ [v])) := hD ⟨vs ++ [.slice A2 v.length c2], hown3, ((hv2.snoc ho2).below b1).grown (ownsRow_below hv1 b1) hg3⟩
         have HK := hD (((((Blk.new w 41 zeroR).below hb1).below hb2).alloc (.cells #[.slice A2 v.length c2] 24)).far (ownsRow_below hv1 b1) (by decide) hg3)
         obtain ⟨x0, x1, x2, f0, f1, f2⟩ := three HK.out
         have HB3 := hD hB3
         clear hown3 hB3)
      | fail)
     obtain ⟨k1, k2, k3⟩ := put3 HK.out (.int .i64 0) (.slice none 0 0) (.int .i64 ((qs.length : Int) + 1))
     refine bodyPost_ret (results_tmp_cell_row rfl _ _ _ _ _ _ rfl k1 Tryz.underlying41 rfl (by kernel_rfl)) rfl ?_
     have e : (qs ++ [v]).length = qs.length + 1 := by simp
     have h3 := k2 w lR HB3.out
     exact ⟨A3, c3, none, 0, by rw [e]; rfl, by rw [e]; exact HQ.out.put3 HK.out (by decide) (by decide) _ _ _, own_nil _ _, h3, h3⟩
theorem push_any {W w : World} {qs : List (List Nat)} {v : List Nat} {A A' : Option Addr} {n c n' c' B B' : Nat} (hn : n <= 100000) (hL : LimL qs) (hn' : Lim 0 n') (hr : RdQ w B A n qs) (hr' : Rd w B' A' n' (bv v)) (hB : Below W.heap.size W w) :
 Calls Tryz.prog 83 #[.slice A n c, .slice A' n' c'] w (GotQR W w (pushS qs v) (pushE qs v) [] (pushN qs v)) :=
 (push_raw hn hL hn' hr hr').mono fun e w' h => GotQR.of hB h
set_option maxHeartbeats 2000000 in
set_option maxRecDepth 100000 in
theorem pop_raw {w : World} {qs : List (List Nat)} {A : Option Addr} {n c B : Nat} (hn : n <= 100000) (hc : n <= c) (hL : LimL qs) (hr : RdQ w B A n qs) :
 Calls Tryz.prog 84 #[.slice A n c] w (GotQR w w qs.tail (popE qs) (popV qs) 0) := by
 have hB := Below.refl w.heap.size w
 have HL := hD hL
 have HR := hD hr.fit
 obtain rfl := hr.length
 have b0 : Below w.heap.size w (w.alloc (.cells zeroR 41)) := (Below.refl _ _).alloc lR _
 clear hr hL
 unfold popE popV
 rcases Nat.eq_zero_or_pos qs.length with h0 | h0
 · have hq : qs = [] := List.eq_nil_of_length_eq_zero h0
   subst hq
   rw [if_pos h0]
   clear h0
   go_enter Tryz.func84, Tryz.ntmps84
   go_wp2_with fail
   refine bodyPost_ret (results_tmp_cell_row rfl _ _ _ _ _ _ rfl (Blk.new w 41 #[.int .i64 4, .slice none 0 0, .int .i64 0]) Tryz.underlying41 rfl (by kernel_rfl)) rfl ?_
   have h3 : Below w.heap.size w (w.alloc (.cells #[.int .i64 4, .slice none 0 0, .int .i64 0] 41)) := (Below.refl _ _).alloc lR _
   exact ⟨none, 0, none, 0, rfl, OwnQ.nil _ _, own_nil _ _, h3, h3⟩
 · have hq0 : ¬ qs.length = 0 := by omega
   rw [if_neg hq0]
   have hne : ((qs.length : Int) == 0) = false := by rw [beq_eq_false_iff_ne]; omega
   obtain ⟨b, o, l, A1, c1, rfl, hl, hcell, hrd⟩ := HR.out.at h0
   have hll : Lim 0 l.length := HL.out l (List.mem_of_getElem? hl)
   have hv : qs.head?.getD [] = l := by rw [List.head?_eq_getElem?, hl]; rfl
   rw [hv]
   have HRD := hD hrd
   have HL1 : Hid (LimL qs.tail) := hD (fun x hx => HL.out x (List.mem_of_mem_tail hx))
   have HR1 : Hid (RdQ w w.heap.size (cutAt (some ⟨b, o, none⟩) c 1) (qs.length - 1) qs.tail) := hD (by have := HR.out.drop (k := 1) (c := c) (by omega) hc; rwa [List.drop_one] at this)
   have htl : qs.tail.length = qs.length - 1 := by simp
   obtain ⟨i0, hi0, _, hi1, _⟩ := info_parts cellQ.info
   have esl : ∀ w : World, (Instr.slice 30 (.slice (some ⟨b, o, none⟩) qs.length c) (some (.int .i64 1)) none none).run Tryz.prog w = .ok (.slice (cutAt (some ⟨b, o, none⟩) c 1) (qs.length - 1) (c - 1)) w :=
    fun w => run_slice_from (P := Tryz.prog) Tryz.underlying30 hi0 hi1 (some ⟨b, o, none⟩) qs.length c 1 (by omega) w
   go_enter Tryz.func84, Tryz.ntmps84
   rw [Nat.add_zero] at hcell
   have hlt := World.block_lt_of_cell? w _ hcell
   have hcl : ∀ w' : World, Below w.heap.size w w' -> w'.cell? ⟨b, o, none⟩ = some (.slice A1 l.length c1) := fun w' h => (h.cell (p := ⟨b, o, none⟩) hlt).trans hcell
   have HC := hD hcl
   have HKb := hD (Blk.new w 41 zeroR)
   have hc0 := hcl _ b0
   clear hcl hcell hrd hv hlt hi0 hi1
   go_upto_region 3 with fail
   go_region_with (first
    | (go_at_call 139; refine (copied_any (W := w) (n := qs.length - 1) (by omega) HL1.out (by first | exact HR1.out.below b0.drew | exact HR1.out.below hBO) (by first | exact b0.drew | exact hBO)).mono ?_; rintro e wR ⟨AR, cR, rfl, hoR, hBR, hbR⟩
       have HKb := hD (show Blk wR w.heap.size 41 zeroR by first | exact HKb.out.drew.below hbR | exact HKb.out.below hbR)
       have hcR := HC.out _ hBR
       obtain ⟨x0, x1, x2, f0, f1, f2⟩ := three HKb.out)
    | (go_at_call 40; refine (clone_any (W := w) hll (by first | exact HRD.out.below b0.drew | exact HRD.out.below hBR) (by first | exact b0.drew | exact hBR)).mono ?_; rintro e wO ⟨AO, cO, rfl, hoO, hBO, hbO⟩
       have HKb := hD (show Blk wO w.heap.size 41 zeroR by first | exact HKb.out.drew.below hbO | exact HKb.out.below hbO)
       have hcO := HC.out _ hBO
       obtain ⟨x0, x1, x2, f0, f1, f2⟩ := three HKb.out))
   all_goals go_wp2
   all_goals
    obtain ⟨k1, k2, k3⟩ := put3 HKb.out (.int .i64 0) (.slice AO l.length cO) (.int .i64 0)
    refine bodyPost_ret (results_tmp_cell_row rfl _ _ _ _ _ _ rfl k1 Tryz.underlying41 rfl (by kernel_rfl)) rfl ?_
    have h3 := k2 w lR hBO
    exact ⟨AR, cR, AO, cO, by rw [htl]; rfl, (hoR.below hbO).put3 HKb.out (by decide) (by decide) _ _ _, k3 _ _ _ _ _ _ hoO (by decide), h3, h3⟩
theorem pop_any {W w : World} {qs : List (List Nat)} {A : Option Addr} {n c B : Nat} (hn : n <= 100000) (hc : n <= c) (hL : LimL qs) (hr : RdQ w B A n qs) (hB : Below W.heap.size W w) :
 Calls Tryz.prog 84 #[.slice A n c] w (GotQR W w qs.tail (popE qs) (popV qs) 0) :=
 (pop_raw hn hc hL hr).mono fun e w' h => GotQR.of hB h
set_option maxHeartbeats 1000000 in
set_option maxRecDepth 100000 in
theorem eachQ_raw (qs : List (List Nat)) (A : Option Addr) (n c B : Nat) (hn : n <= 100000) (hL : LimL qs) (w : World) (hr : RdQ w B A n qs) :
 Calls Tryz.prog 133 #[.slice A n c, .func (.func 40) #[] #[]] w (GotQ w w qs) := by
 have HL := hD hL
 have HR := hD hr.fit
 have hlen := hr.length
 obtain ⟨i0, hi0, hi1, hi2, hi3⟩ := info_parts cellQ.info
 clear hr hL
 go_enter Tryz.func133, Tryz.ntmps133
 go_wp2_with (first
  | (at_make
     refine wpList_make_own w rfl _ _ 30 rfl w.heap.size 24 i0 _ 1 Tryz.underlying30 hi0 hi1 hi2 _ _ _ n rfl rfl rfl (by rw [hi3]; omega) (by unfold maxLen; omega) lR ?_
     intro w0 hown0 hg0)
  | fail)
 go_loopw [5, 7, 13] (fun s5 _ s13 wr => ∃ (k c' : Nat) (A' : Option Addr), k <= n /\ s13 = .int .i64 (k : Int) /\ s5 = .slice A' k c' /\ Hid (OwnQ w wr A' k c' (qs.take k)) /\ Hid (Below w.heap.size w wr)) (fun _ _ s13 _ => n - (intOf s13).toNat)
 case atStart => exact ⟨0, _, _, Nat.zero_le _, rfl, rfl, hD ⟨[], hown0, by simpa using Owns.nil w w0⟩, hD ((Below.refl _ _).grown hg0 lR (fun k hk => by cases hk))⟩
 case round =>
  obtain ⟨k, c', A', hk, rfl, rfl, HO, HB⟩ := hrel
  by_cases hlt : k < n
  · obtain ⟨b, o, l, A1, c1, rfl, hl, hcell, hrd⟩ := (HR.out.below HB.out).at hlt
    have hll : Lim 0 l.length := HL.out l (List.mem_of_getElem? hl)
    have HRD := hD hrd
    have HLL := hD hl
    clear hrd hl
    go_wp2_with (first
     | (go_at_call 40; refine (clone_any (W := w) hll HRD.out HB.out).mono ?_; rintro e w1 ⟨A2, c2, rfl, ho2, hB2, hb2⟩; obtain ⟨vs, hv1, hv2⟩ := HO.out.below hb2)
     | (at_builtin
        refine wpList_append_cells (W := w) cellQ (.tmp 17) (.tmp 21) rfl (by rfl) rfl (ownsRow_below hv1 ((Below.refl _ _).alloc lR _)) rfl (Rd.oneV _ _ _) (by intro u hu; simp at hu; subst hu; rfl) (by omega) (by omega) (hB2.alloc hB2.size _) ?_
        intro A3 c3 w3 hown3 hB3 hg3)
     | fail)
    go_roundw
    case rel =>
     refine ⟨k + 1, c3, A3, by omega, by go_num, rfl, hD ?_, hD hB3⟩
     have b1 : Below w1.heap.size w1 (w1.alloc (.cells #[.slice A2 l.length c2] 24)) := (Below.refl _ _).alloc lR _
     refine ⟨vs ++ [.slice A2 l.length c2], hown3, ?_⟩
     rw [List.take_add_one, HLL.out]
     exact ((hv2.snoc ho2).below b1).grown (ownsRow_below hv1 b1) hg3
    case measure => simp only [intOf]; omega
  · obtain rfl : k = n := by omega
    go_wp2_with fail
    go_ret
    have HO2 := HO.out
    rw [List.take_of_length_le (by omega)] at HO2
    subst hlen
    exact ⟨A', c', rfl, HO2, HB.out, HB.out⟩
theorem eachQ_any {W w : World} {qs : List (List Nat)} {A : Option Addr} {n c B : Nat} (hn : n <= 100000) (hL : LimL qs) (hr : RdQ w B A n qs) (hB : Below W.heap.size W w) :
 Calls Tryz.prog 133 #[.slice A n c, .func (.func 40) #[] #[]] w (GotQ W w qs) :=
 (eachQ_raw qs A n c B hn hL w hr).mono fun e w' h => GotQ.of hB h
def GotPair (W w : World) (p : Pr) (e : Ending) (w' : World) : Prop := ∃ A1 c1 A2 c2, e = .returned (.agg #[.slice A1 p.1.length c1, .slice A2 p.2.length c2]) /\ OwnB W w' A1 p.1.length c1 p.1 /\ OwnB W w' A2 p.2.length c2 p.2 /\ Below W.heap.size W w' /\ Below w.heap.size w w'
set_option maxHeartbeats 2000000 in
set_option maxRecDepth 100000 in
theorem pairCopied_raw (w : World) {A1 A2 : Option Addr} {c1 c2 B : Nat} {p : Pr} (hl1 : Lim 0 p.1.length) (hl2 : Lim 0 p.2.length) (h1 : Rd w B A1 p.1.length (bv p.1)) (h2 : Rd w B A2 p.2.length (bv p.2)) :
 Calls Tryz.prog 136 #[.agg #[.slice A1 p.1.length c1, .slice A2 p.2.length c2]] w (GotPair w w p) := by
 obtain ⟨g, hg⟩ : ∃ g, w.heap.size = g := ⟨_, rfl⟩
 obtain ⟨wz, hwz⟩ : ∃ wz, (w.alloc (.cells #[.slice A1 p.1.length c1, .slice A2 p.2.length c2] 81)).alloc (.cells #[.slice none 0 0, .slice none 0 0] 81) = wz := ⟨_, rfl⟩
 have hbz : Below w.heap.size w wz := by rw [<- hwz]; exact ((Below.refl _ _).alloc lR _).alloc (by simp) _
 have HR1 := hD (h1.fit.below hbz).fit
 have HR2 := hD (h2.fit.below hbz).fit
 have HBZ := hD hbz
 have HW := hD hwz
 have HG := hD hg
 have HV : Hid (Blk wz g 81 #[.slice A1 p.1.length c1, .slice A2 p.2.length c2] /\ Blk wz (g + 1) 81 #[.slice none 0 0, .slice none 0 0]) := hD (by
  subst hg
  rw [<- hwz]
  refine ⟨(Blk.new _ _ _).alloc _, ?_⟩
  have := Blk.new (w.alloc (.cells #[.slice A1 p.1.length c1, .slice A2 p.2.length c2] 81)) 81 #[.slice none 0 0, .slice none 0 0]
  rwa [World.size_alloc] at this)
 clear hbz h1 h2 hwz hg
 go_enter Tryz.func136, Tryz.ntmps136
 go_upto_region 1 with fail
 rw [HG.out]
 rw [HW.out]
 have m1 : (⟨g + 1, 0, none⟩ : Addr).block < wz.heap.size := HV.out.2.lt
 refine region_T (n := 7) (S := fun w' => Below wz.heap.size wz w') (by kernel_rfl) ?_
 have hS0 : Below wz.heap.size wz wz.drew := (Below.refl _ _).drew
 generalize wz.drew = w4 at hS0 |-
 have hS := hD hS0
 clear hS0 m1
 refine AnyT.take (i := 0) (v := .pointer (some ⟨g, 0, none⟩)) rfl (by kernel_rfl) (by kernel_rfl) (by kernel_rfl) (by kernel_rfl) (fun _ _ _ h => h) (Or.inl ⟨by kernel_rfl, fun w _ => by go_simp⟩) hS.out ?_
 refine AnyT.take (i := 3) (v := .pointer (some ⟨g, 1, none⟩)) rfl (by kernel_rfl) (by kernel_rfl) (by kernel_rfl) (by kernel_rfl) (fun _ _ _ h => h) (Or.inl ⟨by kernel_rfl, fun w _ => by go_simp⟩) hS.out ?_
 refine AnyT.take (i := 1) (v := .slice A1 p.1.length c1) rfl (by kernel_rfl) (by kernel_rfl) (by kernel_rfl) (by kernel_rfl) (fun _ _ _ h => h) (Or.inl ⟨by kernel_rfl, fun w h => by have q := (Below.cell h (p := ⟨g, 0, none⟩) HV.out.1.lt).trans (HV.out.1.cell 0); go_simp⟩) hS.out ?_
 refine AnyT.take (i := 4) (v := .slice A2 p.2.length c2) rfl (by kernel_rfl) (by kernel_rfl) (by kernel_rfl) (by kernel_rfl) (fun _ _ _ h => h) (Or.inl ⟨by kernel_rfl, fun w h => by have q := (Below.cell h (p := ⟨g, 1, none⟩) HV.out.1.lt).trans (HV.out.1.cell 1); go_simp⟩) hS.out ?_
 refine AnyT.ready (rs := [2]) (by kernel_rfl) (by simp) ?_
 refine AllT.cons rfl (fun K hK => ?_) AllT.nil
 go_simp
 refine (clone_any (W := wz) hl1 (HR1.out.below hS.out) hS.out).mono ?_
 rintro e w5 ⟨A5, c5, rfl, ho5, hB5, hb5⟩
 have hS := hD (hS.out.trans (hb5.mono hS.out.size))
 go_simp
 refine hK.out _ _ (Or.inr (hS.out)) (fun _ => ?_)
 clear hK K
 refine AnyT.ready (rs := [5]) (by kernel_rfl) (by simp) ?_
 refine AllT.cons rfl (fun K hK => ?_) AllT.nil
 go_simp
 refine (clone_any (W := wz) hl2 (HR2.out.below hS.out) hS.out).mono ?_
 rintro e w6 ⟨A6, c6, rfl, ho6, hB6, hb6⟩
 have hS := hD (hS.out.trans (hb6.mono hS.out.size))
 have ho5 := own_below ho5 hb6
 have HK := hD (HV.out.2.below hS.out)
 have f0 := HK.out.frozen 0
 have f1 := HK.out.frozen 1
 have x0 := HK.out.cell 0
 have x1 := HK.out.cell 1
 go_simp
 refine hK.out _ _ (Or.inr (hS.out)) (fun _ => ?_)
 clear hK K
 refine AnyT.take (i := 6) (v := .agg #[.slice A5 p.1.length c5, .slice A6 p.2.length c6]) rfl (by kernel_rfl) (by kernel_rfl) (by kernel_rfl) (by kernel_rfl) (fun _ _ _ h => h) (Or.inl ⟨by kernel_rfl, fun w _ => by go_simp⟩) hS.out ?_
 refine AnyT.ready (rs := [7]) (by kernel_rfl) (by simp) ?_
 refine AllT.cons rfl (fun K hK => ?_) AllT.nil
 go_simp
 refine hK.out _ _ (Or.inl rfl) (fun _ => ?_)
 clear hK K
 refine AnyT.done (by kernel_rfl) ?_ _
 go_wp2_with fail
 have k1 := (HK.out.set_ 0 (.slice A5 p.1.length c5)).set_ 1 (.slice A6 p.2.length c6)
 refine bodyPost_ret (results_cell_row rfl _ _ _ _ _ _ _ rfl k1 Tryz.underlying81 rfl (by kernel_rfl)) rfl ?_
 have hwb : w.heap.size <= g + 1 := by have := HG.out; omega
 have hw : Below w.heap.size w w6 := HBZ.out.trans (hS.out.mono HBZ.out.size)
 have h3 : Below w.heap.size w ((w6.setCell ⟨g + 1, 0, none⟩ (.slice A5 p.1.length c5)).setCell ⟨g + 1, 1, none⟩ (.slice A6 p.2.length c6)) := (hw.setCell (p := ⟨g + 1, 0, none⟩) hwb _).setCell (p := ⟨g + 1, 1, none⟩) hwb _
 exact ⟨A5, c5, A6, c6, rfl, more_ HBZ.out.size (own_set_t (own_set_t ho5 HK.out (by decide)) (HK.out.set_ 0 _) (by decide)), more_ HBZ.out.size (own_set_t (own_set_t ho6 HK.out (by decide)) (HK.out.set_ 0 _) (by decide)), h3, h3⟩
theorem pairCopied_any {W w : World} {A1 A2 : Option Addr} {c1 c2 B : Nat} {p : Pr} (hl1 : Lim 0 p.1.length) (hl2 : Lim 0 p.2.length) (h1 : Rd w B A1 p.1.length (bv p.1)) (h2 : Rd w B A2 p.2.length (bv p.2)) (hB : Below W.heap.size W w) :
 Calls Tryz.prog 136 #[.agg #[.slice A1 p.1.length c1, .slice A2 p.2.length c2]] w (GotPair W w p) :=
 (pairCopied_raw w hl1 hl2 h1 h2).mono fun e w' ⟨A1, c1, A2, c2, h1, h2, h3, h4, h5⟩ => ⟨A1, c1, A2, c2, h1, more_ hB.size h2, more_ hB.size h3, hB.trans (h4.mono hB.size), h5⟩
set_option maxHeartbeats 2000000 in
set_option maxRecDepth 100000 in
theorem eachP_raw (ps : List Pr) (A : Option Addr) (n c B : Nat) (hn : n <= 100000) (hL : LimP ps) (w : World) (hr : RdP w B A n ps) :
 Calls Tryz.prog 135 #[.slice A n c, .func (.func 136) #[] #[]] w (GotP w w ps) := by
 have HL := hD hL
 have HR := hD hr.fit
 have hlen := hr.length
 obtain ⟨i0, hi0, hi1, hi2, hi3⟩ := info_parts cellP.info
 clear hr hL
 go_enter Tryz.func135, Tryz.ntmps135
 go_wp2_with (first
  | (at_make
     refine wpList_make_own w rfl _ _ 31 rfl w.heap.size 81 i0 _ 2 Tryz.underlying31 hi0 hi1 hi2 _ _ _ n rfl rfl rfl (by rw [hi3]; omega) (by unfold maxLen; omega) lR ?_
     intro w0 hown0 hg0)
  | fail)
 clear hi0 hi1 hi2 hi3
 obtain ⟨g, hg⟩ : ∃ g, w.heap.size = g := ⟨_, rfl⟩
 have HB00 := hD ((Below.refl w.heap.size w).grown hg0 lR (fun k hk => by cases hk))
 have HO00 : Hid (OwnP w w0 (some ⟨g, 0, none⟩) 0 n []) := hD ⟨[], by rw [<- hg]; exact hown0, Owns.nil w w0⟩
 clear hown0 hg0
 rw [hg]
 have HG := hD hg
 clear hg
 go_loopw [5, 7, 13] (fun s5 s7 s13 wr => ∃ (k : Nat), k <= n /\ s13 = .int .i64 (k : Int) /\ s5 = .slice (some ⟨g, 0, none⟩) k n /\ Hid (OwnP w wr (some ⟨g, 0, none⟩) k n (ps.take k)) /\ Hid (Below w.heap.size w wr)) (fun _ _ s13 _ => n - (intOf s13).toNat)
 case atStart => exact ⟨0, Nat.zero_le _, rfl, rfl, hD (by simpa using HO00.out), HB00⟩
 case round =>
  obtain ⟨k, hk, rfl, rfl, HO, HB⟩ := hrel
  by_cases hlt : k < n
  · obtain ⟨b, o, p, A1, c1, A2, c2, rfl, hp, hcell1, hcell2, hrd1, hrd2⟩ := ((HR.out.below HB.out).fit).at hlt
    have hl1 : Lim 0 p.1.length := (HL.out p (List.mem_of_getElem? hp)).1
    have hl2 : Lim 0 p.2.length := (HL.out p (List.mem_of_getElem? hp)).2
    have b0 : Below wr.heap.size wr (wr.alloc (.cells #[.slice A1 p.1.length c1, .slice A2 p.2.length c2] 81)) := (Below.refl _ _).alloc lR _
    have HC := hD (pairCopied_any (W := w) (c1 := c1) (c2 := c2) hl1 hl2 (hrd1.below b0) (hrd2.below b0) (HB.out.trans (b0.mono HB.out.size)))
    have HB0 := hD b0
    have HP := hD hp
    clear hrd1 hrd2 hp b0
    go_wp2_with (first
     | (go_at_call 136; refine HC.out.mono ?_; rintro e w1 ⟨A4, c4, A5, c5, rfl, ho1, ho2, hB2, hb2⟩; obtain ⟨vs, hv1, hv2⟩ := HO.out.below (HB0.out.trans (hb2.mono HB0.out.size)))
     | (at_builtin
        refine wpList_append_fits (W := w) cellP (.tmp 17) (.tmp 21) rfl (by rfl) rfl (ownsRow_below hv1 ((Below.refl _ _).alloc lR _)) rfl (Rd.twoAt _ _ _ _ rfl) (by intro u hu; simp at hu; rcases hu with rfl | rfl <;> rfl) (by omega) (by omega) (hB2.alloc hB2.size _) ?_
        intro w3 hown3 hB3 hg3)
     | fail)
    go_roundw
    case rel =>
     refine ⟨k + 1, by omega, by go_num, rfl, hD ?_, hD hB3⟩
     have b1 : Below w1.heap.size w1 (w1.alloc (.cells #[.slice A4 p.1.length c4, .slice A5 p.2.length c5] 81)) := (Below.refl _ _).alloc lR _
     refine ⟨vs ++ [.slice A4 p.1.length c4, .slice A5 p.2.length c5], hown3, ?_⟩
     rw [List.take_add_one, HP.out, flat_append]
     exact ((hv2.two ho1 ho2).below b1).grownP (ownsRow_below hv1 b1) hg3
    case measure => simp only [intOf]; omega
  · obtain rfl : k = n := by omega
    go_wp2_with fail
    go_ret
    have HO2 := HO.out
    rw [List.take_of_length_le (by omega)] at HO2
    subst hlen
    exact ⟨_, _, rfl, HO2, HB.out, HB.out⟩
theorem eachP_any {W w : World} {ps : List Pr} {A : Option Addr} {n c B : Nat} (hn : n <= 100000) (hL : LimP ps) (hr : RdP w B A n ps) (hB : Below W.heap.size W w) :
 Calls Tryz.prog 135 #[.slice A n c, .func (.func 136) #[] #[]] w (GotP W w ps) :=
 (eachP_raw ps A n c B hn hL w hr).mono fun e w' h => GotP.of hB h
def TakeC : Prop := ∀ {W w : World} {zs : List Int} {A : Option Addr} {n c B : Nat} (x : Int), n <= 100000 -> n <= c -> Rd w B A n (iv zs) -> Below W.heap.size W w →
 Calls Tryz.prog 85 #[.slice A n c, .int .i64 x] w (GotIR W w (takeS zs x) (takeE zs x) (takeN zs x))
def FreeC : Prop := ∀ {W w : World} {zs : List Int} {A : Option Addr} {n c B : Nat} (x : Int), n <= 100000 -> n <= c -> zs.Nodup -> Rd w B A n (iv zs) -> Below W.heap.size W w →
 Calls Tryz.prog 86 #[.slice A n c, .int .i64 x] w (GotIR W w (zs.erase x) (freeE zs x) (freeN zs x))
def OwnerC : Prop := ∀ {W w : World} {zs : List Int} {A : Option Addr} {n c B : Nat}, n <= 100000 -> n <= c -> Rd w B A n (iv zs) -> Below W.heap.size W w →
 Calls Tryz.prog 87 #[.slice A n c] w (GotR W w (ownerE zs) [] (ownerN zs))
def GotI (W w : World) (l : List Int) (en : Ending) (w' : World) : Prop :=
 ∃ A c, en = .returned (.slice A l.length c) /\ OwnI W w' A l.length c l /\ Below W.heap.size W w' /\ Below w.heap.size w w'
theorem GotI.of {W w w' : World} {l : List Int} {en : Ending} (hB : Below W.heap.size W w) (h : GotI w w l en w') : GotI W w l en w' := by
 obtain ⟨A, c, h1, h2, h3, h4⟩ := h
 exact ⟨A, c, h1, own_of hB.size h2, hB.trans (h3.mono hB.size), h4⟩
set_option maxRecDepth 100000 in
theorem cloneI_raw {w : World} {zs : List Int} {A : Option Addr} {n c B : Nat} (hn : n <= 100000) (hr : Rd w B A n (iv zs)) :
 Calls Tryz.prog 134 #[.slice A n c] w (GotI w w zs) := by
 have H := hD hr.fit
 have hB0 : Below w.heap.size w w := Below.refl _ _
 obtain rfl : zs.length = n := by have := hr.1; rwa [iv_length] at this
 cases A with
 | none =>
   have h0 : zs.length = 0 := by
    rcases Nat.eq_zero_or_pos zs.length with h | h
    · exact h
    · obtain ⟨b, o, h1, _⟩ := hr.2 h
      cases h1
   have hl : zs = [] := List.eq_nil_of_length_eq_zero h0
   subst hl
   clear hr H h0
   have he : ∀ (w : World) (n : Nat), (binOp .eql 22 (.slice none n c) (.slice none 0 0)).run Tryz.prog w = .ok (.bool true) w := fun _ _ => rfl
   go_enter Tryz.func134, Tryz.ntmps134
   go_wp2
   go_ret
   exact ⟨none, 0, rfl, ownI_nil _ _, hB0, hB0⟩
 | some a =>
   clear hr
   have he : ∀ (w : World) (n : Nat), (binOp .eql 22 (.slice (some a) n c) (.slice none 0 0)).run Tryz.prog w = .ok (.bool false) w := fun _ _ => rfl
   go_enter Tryz.func134, Tryz.ntmps134
   go_wp2_with (first
    | (at_builtin
       refine wpList_append_cells (W := w) cellI (.tmp 5) (.tmp 6) rfl (by rfl) rfl (ownI_empty hB0) rfl (H.out.below (hB0.alloc lR _)) (iv_one _) (by omega) (by omega) (hB0.alloc lR _) ?_
       intro A1 c1 w1 hown1 hB1 hg1
       simp only [Nat.zero_add] at hown1)
    | fail)
   go_ret
   exact ⟨A1, c1, rfl, hown1, hB1, hB1⟩
theorem cloneI_any {W w : World} {zs : List Int} {A : Option Addr} {n c B : Nat} (hn : n <= 100000) (hr : Rd w B A n (iv zs)) (hB : Below W.heap.size W w) :
 Calls Tryz.prog 134 #[.slice A n c] w (GotI W w zs) :=
 (cloneI_raw hn hr).mono fun e w' h => GotI.of hB h
theorem index_any (w : World) {A : Option Addr} {n c B : Nat} {zs : List Int} (x : Int) (h : Rd w B A n (iv zs)) (hn : n <= maxLen) :
 Calls Tryz.prog 150 #[.slice A n c, .int .i64 x] w fun e w' => e = .returned (.int .i64 (placeI zs x)) /\ w = w' := by
 have hl : zs.length = n := by have := h.1; rwa [iv_length] at this
 unfold maxLen at hn
 have HN : Hid (n <= 9223372036854775807) := hD (by omega)
 have HL := hD hl
 have H := hD h
 clear h hl hn
 go_enter Tryz.func150, Tryz.ntmps150
 go_wp2
 go_loopw [8] (fun i wr => ∃ k : Nat, k <= n /\ i = .int .i64 k /\ Hid (∀ j, j < k -> zs[j]? ≠ some x) /\ w = wr) (fun i _ => n - (intOf i).toNat)
 case atStart => exact ⟨0, Nat.zero_le _, rfl, hD (fun j hj => absurd hj (by omega)), rfl⟩
 case round =>
  obtain ⟨k, hk, rfl, HS, rfl⟩ := hrel
  by_cases hlt : k < n
  · obtain ⟨z, hz⟩ : ∃ z, zs[k]? = some z := ⟨_, List.getElem?_eq_getElem (by have := HL.out; omega)⟩
    obtain ⟨b, o, rfl, _⟩ := H.out.int_at hlt
    have hc := H.out.int_cell hlt hz
    have hv : IntKind.i64.wrap ((k : Int) + 1) = (k : Int) + 1 := IntWalk.i64_in _ (by have := HN.out; omega)
    have HZ := hD hz
    clear hz
    by_cases he : z = x
    · subst he
      have HP := hD (place_first HZ.out HS.out)
      go_wp2
      go_ret
      exact ⟨ret_int HP.out.symm, rfl⟩
    · have he' : (x == z) = false := by simpa using fun h => he h.symm
      have HE := hD he
      clear he
      go_wp2
      go_roundw
      case rel =>
       refine ⟨k + 1, by omega, by go_num, hD (fun j hj => ?_), trivial⟩
       rcases Nat.lt_or_ge j k with h1 | h1
       · exact HS.out j h1
       · obtain rfl : j = k := by omega
         rw [HZ.out]
         intro h; injection h with h; exact HE.out h
      case measure => simp [intOf]; omega
  · obtain rfl : k = n := by omega
    have HP := hD (place_none (s := zs) (x := x) (by rw [HL.out]; exact HS.out))
    go_wp2
    go_ret
    exact ⟨ret_int HP.out.symm, rfl⟩
theorem contains_any (w : World) {A : Option Addr} {n c B : Nat} {zs : List Int} (x : Int) (h : Rd w B A n (iv zs)) (hn : n <= maxLen) :
 Calls Tryz.prog 126 #[.slice A n c, .int .i64 x] w fun e w' => e = .returned (.bool (decide (x ∈ zs))) /\ w = w' := by
 have H := hD h
 clear h
 by_cases hx : x ∈ zs
 · obtain ⟨k, hk, hk1, _⟩ := place_lt hx
   have h0 : (0 : Int) <= (k : Int) := by omega
   have HP := hD hk
   rw [decide_eq_true hx]
   clear hk hx
   go_enter Tryz.func126, Tryz.ntmps126
   go_wp2_with (first
    | (go_at_call 150; refine (index_any _ x H.out hn).mono ?_; rintro e w2 ⟨rfl, rfl⟩; rw [HP.out])
    | fail)
   go_ret
   exact ⟨rfl, rfl⟩
 · have HP := hD (place_no hx)
   rw [decide_eq_false hx]
   clear hx
   go_enter Tryz.func126, Tryz.ntmps126
   go_wp2_with (first
    | (go_at_call 150; refine (index_any _ x H.out hn).mono ?_; rintro e w2 ⟨rfl, rfl⟩; rw [HP.out])
    | fail)
   go_ret
   exact ⟨rfl, rfl⟩
def noX (zs : List Int) (x : Int) : List Int := zs.filter (fun z => !(z == x))
set_option maxRecDepth 100000 in
theorem without_raw {w : World} {zs : List Int} {A : Option Addr} {n c B : Nat} (x : Int) (hn : n <= 100000) (hr : Rd w B A n (iv zs)) :
 Calls Tryz.prog 140 #[.slice A n c, .int .i64 x] w (GotI w w (noX zs x)) := by
 have HR := hD hr.fit
 have hl : zs.length = n := by have := hr.1; rwa [iv_length] at this
 have HL := hD hl
 obtain ⟨i0, hi0, hi1, hi2, hi3⟩ := info_parts cellI.info
 clear hr hl
 go_enter Tryz.func140, Tryz.ntmps140
 go_wp2_with (first
  | (at_make
     refine wpList_make_own w rfl _ _ 22 rfl w.heap.size 3 i0 _ 1 Tryz.underlying22 hi0 hi1 hi2 _ _ _ n rfl rfl (by rfl) (by rw [hi3]; omega) (by unfold maxLen; omega) lR ?_
     intro w0 hown0 hg0)
  | fail)
 go_loopw [5, 13] (fun s5 s13 wr => ∃ (k m c' : Nat) (A' : Option Addr), k <= n /\ m <= k /\ s13 = .int .i64 (k : Int) /\ s5 = .slice A' m c' /\ Hid (OwnI w wr A' m c' (noX (zs.take k) x)) /\ Hid (Below w.heap.size w wr)) (fun _ s13 _ => n - (intOf s13).toNat)
 case atStart => exact ⟨0, 0, _, _, Nat.zero_le _, Nat.zero_le _, rfl, rfl, hD hown0, hD ((Below.refl _ _).grown hg0 lR (fun k hk => by cases hk))⟩
 case round =>
  obtain ⟨k, m, c', A', hk, hmk, rfl, rfl, HO, HB⟩ := hrel
  by_cases hlt : k < n
  · obtain ⟨z, hz⟩ : ∃ z, zs[k]? = some z := ⟨_, List.getElem?_eq_getElem (by have := HL.out; omega)⟩
    obtain ⟨b, o, rfl, _⟩ := (HR.out.below HB.out).int_at hlt
    have hc := (HR.out.below HB.out).int_cell hlt hz
    have hv : IntKind.i64.wrap ((k : Int) + 1) = (k : Int) + 1 := IntWalk.i64_in _ (by omega)
    have HZ := hD hz
    clear hz
    by_cases he : z = x
    · subst he
      go_wp2_with fail
      go_roundw
      case rel =>
       refine ⟨k + 1, m, c', A', by omega, by omega, by go_num, rfl, hD ?_, HB⟩
       have h := HO.out
       rw [show noX (zs.take (k + 1)) z = noX (zs.take k) z by rw [List.take_add_one, HZ.out]; simp [noX]]
       exact h
      case measure => simp only [intOf]; omega
    · have he' : (z == x) = false := by simpa using he
      have HE := hD he'
      go_wp2_with (first
       | (at_builtin
          refine wpList_append_cells (W := w) cellI (.tmp 20) (.tmp 22) rfl (by rfl) rfl (ownsRow_below HO.out ((Below.refl _ _).alloc lR _)) rfl (Rd.oneV _ _ _) (by intro u hu; simp at hu; subst hu; rfl) (by omega) (by omega) (HB.out.alloc HB.out.size _) ?_
          intro A3 c3 w3 hown3 hB3 hg3)
       | fail)
      go_roundw
      case rel =>
       refine ⟨k + 1, m + 1, c3, A3, by omega, by omega, by go_num, rfl, hD ?_, hD hB3⟩
       rw [show noX (zs.take (k + 1)) x = noX (zs.take k) x ++ [z] by rw [List.take_add_one, HZ.out]; simp [noX, HE.out]]
       unfold OwnI
       rw [show iv (noX (zs.take k) x ++ [z]) = iv (noX (zs.take k) x) ++ [Value.int .i64 z] by simp [iv]]
       exact hown3
      case measure => simp only [intOf]; omega
  · obtain rfl : k = n := by omega
    go_wp2_with fail
    go_ret
    have HO2 := HO.out
    rw [List.take_of_length_le (by have := HL.out; omega)] at HO2
    obtain rfl := ownI_len HO2
    exact ⟨A', c', rfl, HO2, HB.out, HB.out⟩
theorem without_any {W w : World} {zs : List Int} {A : Option Addr} {n c B : Nat} (x : Int) (hn : n <= 100000) (hr : Rd w B A n (iv zs)) (hB : Below W.heap.size W w) :
 Calls Tryz.prog 140 #[.slice A n c, .int .i64 x] w (GotI W w (noX zs x)) :=
 (without_raw x hn hr).mono fun e w' h => GotI.of hB h
theorem nox_erase {zs : List Int} (x : Int) (h : zs.Nodup) : noX zs x = zs.erase x := by
 unfold noX
 rw [List.Nodup.erase_eq_filter h]
 rfl
set_option maxHeartbeats 1000000 in
set_option maxRecDepth 100000 in
theorem take_raw {w : World} {zs : List Int} {A : Option Addr} {n c B : Nat} (x : Int) (hn : n <= 100000) (hr : Rd w B A n (iv zs)) :
 Calls Tryz.prog 85 #[.slice A n c, .int .i64 x] w (GotIR w w (takeS zs x) (takeE zs x) (takeN zs x)) := by
 have hB := Below.refl w.heap.size w
 have HR := hD hr.fit
 obtain rfl : zs.length = n := by have := hr.1; rwa [iv_length] at this
 have b0 : Below w.heap.size w (w.alloc (.cells zeroR 41)) := (Below.refl _ _).alloc lR _
 clear hr
 unfold takeS takeE takeN
 by_cases hx : x ∈ zs
 · rw [if_pos hx, if_pos hx, if_pos hx]
   have HX := hD (decide_eq_true hx)
   clear hx
   go_enter Tryz.func85, Tryz.ntmps85
   go_wp2_with (first
    | (go_at_call 134; refine (cloneI_any (W := w) hn (HR.out.below b0) b0).mono ?_; rintro e w1 ⟨A1, c1, rfl, hown1, hB1, hb1⟩
       have HK := hD ((Blk.new w 41 zeroR).below hb1); obtain ⟨x0, x1, x2, f0, f1, f2⟩ := three HK.out)
    | (go_at_call 126; refine (contains_any _ x (HR.out.below hB1) (by unfold maxLen; omega)).mono ?_; rintro e w2 ⟨rfl, rfl⟩; rw [HX.out])
    | fail)
   obtain ⟨k1, k2, k3⟩ := put3 HK.out (.int .i64 6) (.slice none 0 0) (.int .i64 0)
   refine bodyPost_ret (results_tmp_cell_row rfl _ _ _ _ _ _ rfl k1 Tryz.underlying41 rfl (by kernel_rfl)) rfl ?_
   have h3 := k2 w lR hB1
   exact ⟨A1, c1, none, 0, rfl, k3 _ _ _ _ _ _ hown1 (by decide), own_nil _ _, h3, h3⟩
 · rw [if_neg hx, if_neg hx, if_neg hx]
   have HX := hD (decide_eq_false hx)
   clear hx
   by_cases hf : 5 <= zs.length
   · rw [if_pos hf, if_pos hf, if_pos hf]
     have hfi : (5 : Int) <= (zs.length : Int) := by omega
     go_enter Tryz.func85, Tryz.ntmps85
     go_wp2_with (first
     | (go_at_call 134; refine (cloneI_any (W := w) hn (HR.out.below b0) b0).mono ?_; rintro e w1 ⟨A1, c1, rfl, hown1, hB1, hb1⟩
        have HK := hD ((Blk.new w 41 zeroR).below hb1); obtain ⟨x0, x1, x2, f0, f1, f2⟩ := three HK.out)
     | (go_at_call 126; refine (contains_any _ x (HR.out.below hB1) (by unfold maxLen; omega)).mono ?_; rintro e w2 ⟨rfl, rfl⟩; rw [HX.out])
     | fail)
     obtain ⟨k1, k2, k3⟩ := put3 HK.out (.int .i64 3) (.slice none 0 0) (.int .i64 0)
     refine bodyPost_ret (results_tmp_cell_row rfl _ _ _ _ _ _ rfl k1 Tryz.underlying41 rfl (by kernel_rfl)) rfl ?_
     have h3 := k2 w lR hB1
     exact ⟨A1, c1, none, 0, rfl, k3 _ _ _ _ _ _ hown1 (by decide), own_nil _ _, h3, h3⟩
   · rw [if_neg hf, if_neg hf, if_neg hf]
     have hfi : ¬ (5 : Int) <= (zs.length : Int) := by omega
     go_enter Tryz.func85, Tryz.ntmps85
     go_wp2_with (first
     | (go_at_call 134; refine (cloneI_any (W := w) hn (HR.out.below b0) b0).mono ?_; rintro e w1 ⟨A1, c1, rfl, hown1, hB1, hb1⟩
        have HK := hD ((Blk.new w 41 zeroR).below hb1))
     | (go_at_call 126; refine (contains_any _ x (HR.out.below hB1) (by unfold maxLen; omega)).mono ?_; rintro e w2 ⟨rfl, rfl⟩; rw [HX.out])
     | (at_builtin
        refine wpList_append_cells (W := w) cellI (.tmp 19) (.tmp 21) rfl (by rfl) rfl (ownsRow_below hown1 ((Below.refl _ _).alloc lR _)) rfl (Rd.oneV _ _ _) (by intro u hu; simp at hu; subst hu; rfl) (by omega) (by omega) (hB1.alloc hB1.size _) ?_
        intro A3 c3 w3 hown3 hB3 hg3
        have HK3 := hD ((HK.out.alloc (.cells #[.int .i64 x] 3)).apart_own (ownsRow_below hown1 ((Below.refl _ _).alloc lR _)) (by decide) hg3)
        obtain ⟨x0, x1, x2, f0, f1, f2⟩ := three HK3.out
        clear hg3)
     | fail)
     obtain ⟨k1, k2, k3⟩ := put3 HK3.out (.int .i64 0) (.slice none 0 0) (.int .i64 (zs.length : Int))
     refine bodyPost_ret (results_tmp_cell_row rfl _ _ _ _ _ _ rfl k1 Tryz.underlying41 rfl (by kernel_rfl)) rfl ?_
     have h3 := k2 w lR hB3
     have e : (zs ++ [x]).length = zs.length + 1 := by simp
     have h4 := k3 _ _ _ _ _ _ hown3 (by decide)
     rw [show iv zs ++ [Value.int .i64 x] = iv (zs ++ [x]) by simp [iv]] at h4
     exact ⟨A3, c3, none, 0, by rw [e]; rfl, by rw [e]; exact h4, own_nil _ _, h3, h3⟩
theorem take_any : TakeC := fun x hn hc hr hB => (take_raw x hn hr).mono fun e w' h => GotIR.of hB h
set_option maxHeartbeats 1000000 in
set_option maxRecDepth 100000 in
theorem free_raw {w : World} {zs : List Int} {A : Option Addr} {n c B : Nat} (x : Int) (hn : n <= 100000) (hd : zs.Nodup) (hr : Rd w B A n (iv zs)) :
 Calls Tryz.prog 86 #[.slice A n c, .int .i64 x] w (GotIR w w (zs.erase x) (freeE zs x) (freeN zs x)) := by
 have hB := Below.refl w.heap.size w
 have HR := hD hr.fit
 obtain rfl : zs.length = n := by have := hr.1; rwa [iv_length] at this
 have b0 : Below w.heap.size w (w.alloc (.cells zeroR 41)) := (Below.refl _ _).alloc lR _
 clear hr
 have HNX := hD (nox_erase x hd)
 clear hd
 unfold freeE freeN
 by_cases hx : x ∈ zs
 · rw [if_pos hx, if_pos hx]
   have hl : (zs.erase x).length = zs.length - 1 := List.length_erase_of_mem hx
   have hp : 0 < zs.length := List.length_pos_of_mem hx
   obtain ⟨L, hL⟩ : ∃ L, zs.erase x = L := ⟨_, rfl⟩
   rw [hL] at hl HNX |-
   have HL := hD hl
   have hne : ((L.length : Int) == (zs.length : Int)) = false := by rw [beq_eq_false_iff_ne]; omega
   clear hx hL hl hp
   rcases Nat.eq_zero_or_pos L.length with h0 | h0
   · have hz : L = [] := List.eq_nil_of_length_eq_zero h0
     subst hz
     have hne0 : ((0 : Int) == (zs.length : Int)) = false := hne
     clear h0
     go_enter Tryz.func86, Tryz.ntmps86
     go_wp2_with (first
      | (go_at_call 140; refine (without_any (W := w) x hn (HR.out.below b0) b0).mono ?_; rw [HNX.out]; rintro e w1 ⟨A1, c1, rfl, hown1, hB1, hb1⟩
         have HK := hD ((Blk.new w 41 zeroR).below hb1); obtain ⟨x0, x1, x2, f0, f1, f2⟩ := three HK.out)
      | fail)
     obtain ⟨k1, k2, k3⟩ := put3 HK.out (.int .i64 0) (.slice none 0 0) (.int .i64 (-1))
     refine bodyPost_ret (results_tmp_cell_row rfl _ _ _ _ _ _ rfl k1 Tryz.underlying41 rfl (by kernel_rfl)) rfl ?_
     have h3 := k2 w lR hB1
     exact ⟨none, 0, none, 0, rfl, ownI_nil _ _, own_nil _ _, h3, h3⟩
   · obtain ⟨z, hz⟩ : ∃ z, L[0]? = some z := ⟨_, List.getElem?_eq_getElem h0⟩
     have hv : L.head?.getD (-1) = z := by rw [List.head?_eq_getElem?, hz]; rfl
     rw [hv]
     have hne2 : ((L.length : Int) == 0) = false := by rw [beq_eq_false_iff_ne]; omega
     have HZ := hD hz
     clear hv hz
     go_enter Tryz.func86, Tryz.ntmps86
     go_wp2_with (first
      | (go_at_call 140; refine (without_any (W := w) x hn (HR.out.below b0) b0).mono ?_; rw [HNX.out]; rintro e w1 ⟨A1, c1, rfl, hown1, hB1, hb1⟩
         have HK := hD ((Blk.new w 41 zeroR).below hb1); obtain ⟨x0, x1, x2, f0, f1, f2⟩ := three HK.out
         have HOW := hD hown1; obtain ⟨g, rfl, hg1, hg2⟩ := own_addr hown1 h0; have hcl := (hown1.cellAt 0 (by omega)).trans (iv_get HZ.out); clear hown1 hg1 hg2)
      | fail)
     go_region
     all_goals go_wp2
     obtain ⟨k1, k2, k3⟩ := put3 HK.out (.int .i64 0) (.slice none 0 0) (.int .i64 z)
     refine bodyPost_ret (results_tmp_cell_row rfl _ _ _ _ _ _ rfl k1.drew Tryz.underlying41 rfl (by kernel_rfl)) rfl ?_
     have h3 := (k2 w lR hB1).drew
     exact ⟨some ⟨g, 0, none⟩, c1, none, 0, rfl, k3 _ _ _ _ _ _ HOW.out (by decide), own_nil _ _, h3, h3⟩
 · rw [if_neg hx, if_neg hx]
   rw [List.erase_of_not_mem hx] at HNX |-
   clear hx
   go_enter Tryz.func86, Tryz.ntmps86
   go_wp2_with (first
    | (go_at_call 140; refine (without_any (W := w) x hn (HR.out.below b0) b0).mono ?_; rw [HNX.out]; rintro e w1 ⟨A1, c1, rfl, hown1, hB1, hb1⟩
       have HK := hD ((Blk.new w 41 zeroR).below hb1); obtain ⟨x0, x1, x2, f0, f1, f2⟩ := three HK.out)
    | fail)
   obtain ⟨k1, k2, k3⟩ := put3 HK.out (.int .i64 5) (.slice none 0 0) (.int .i64 0)
   refine bodyPost_ret (results_tmp_cell_row rfl _ _ _ _ _ _ rfl k1 Tryz.underlying41 rfl (by kernel_rfl)) rfl ?_
   have h3 := k2 w lR hB1
   exact ⟨A1, c1, none, 0, rfl, k3 _ _ _ _ _ _ hown1 (by decide), own_nil _ _, h3, h3⟩
theorem free_any : FreeC := fun x hn hc hd hr hB => (free_raw x hn hd hr).mono fun e w' h => GotIR.of hB h
theorem owner_raw (w : World) {zs : List Int} {A : Option Addr} {n c B : Nat} (hr : Rd w B A n (iv zs)) :
 Calls Tryz.prog 87 #[.slice A n c] w fun en w' => en = .returned (resV (ownerE zs) none 0 0 (ownerN zs)) /\ Below w.heap.size w w' := by
 obtain rfl : zs.length = n := by have := hr.1; rwa [iv_length] at this
 unfold ownerE ownerN
 have b0 : Below w.heap.size w (w.alloc (.cells zeroR 41)) := (Below.refl _ _).alloc lR _
 rcases Nat.eq_zero_or_pos zs.length with h0 | h0
 · have hz : zs = [] := List.eq_nil_of_length_eq_zero h0
   subst hz
   rw [if_pos h0]
   clear h0 hr
   go_enter Tryz.func87, Tryz.ntmps87
   go_wp2
   refine bodyPost_ret (results_cell_row rfl _ _ _ _ _ _ _ rfl (Blk.new w 41 #[.int .i64 5, .slice none 0 0, .int .i64 0]) Tryz.underlying41 rfl (by kernel_rfl)) rfl ?_
   exact ⟨rfl, (Below.refl _ _).alloc lR _⟩
 · rw [if_neg (by omega)]
   have hne : ((zs.length : Int) == 0) = false := by rw [beq_eq_false_iff_ne]; omega
   obtain ⟨z, hz⟩ : ∃ z, zs[0]? = some z := ⟨_, List.getElem?_eq_getElem h0⟩
   obtain ⟨b, o, rfl, _⟩ := hr.int_at h0
   have hc := hr.int_cell h0 hz
   have hv : zs.head?.getD 0 = z := by rw [List.head?_eq_getElem?, hz]; rfl
   rw [hv]
   rw [Nat.add_zero] at hc
   have hc0 := (b0.cell (p := ⟨b, o, none⟩) (World.block_lt_of_cell? _ _ hc)).trans hc
   clear hv hz hc hr
   go_enter Tryz.func87, Tryz.ntmps87
   go_wp2
   refine bodyPost_ret (results_cell_row rfl _ _ _ _ _ _ _ rfl (Blk.new w 41 #[.int .i64 0, .slice none 0 0, .int .i64 z]) Tryz.underlying41 rfl (by kernel_rfl)) rfl ?_
   exact ⟨rfl, (Below.refl _ _).alloc lR _⟩
theorem owner_any : OwnerC := fun hn hc hr hB => (owner_raw _ hr).mono fun e w' h => ⟨none, 0, h.1, own_nil _ _, hB.trans (h.2.mono hB.size), h.2⟩
def GotObj (W w : World) (s : Ob) (e : Ending) (w' : World) : Prop := ∃ a, e = .returned (objV a s) /\ OwnO W w' a s /\ Below W.heap.size W w' /\ Below w.heap.size w w'
set_option maxHeartbeats 4000000 in
set_option maxRecDepth 100000 in
theorem copied8_raw {w : World} {a : OA} {s : Ob} {B : Nat} (hI : s.Inv) (h : RdO w B a s) : Calls Tryz.prog 76 #[objV a s] w (GotObj w w s) := by
 obtain ⟨A0, c0, A1, c1, A2, c2, A3, c3⟩ := a
 obtain ⟨g, hg⟩ : ∃ g, w.heap.size = g := ⟨_, rfl⟩
 obtain ⟨wz, hwz⟩ : ∃ wz, (w.alloc (.cells (objC ⟨A0, c0, A1, c1, A2, c2, A3, c3⟩ s) 33)).alloc (.cells #[.slice none 0 0, .slice none 0 0, .slice none 0 0, .slice none 0 0] 33) = wz := ⟨_, rfl⟩
 have hbz : Below w.heap.size w wz := by rw [<- hwz]; exact ((Below.refl _ _).alloc lR _).alloc (by simp) _
 have H := hD ((h.fit.below hbz).fit)
 have HI := hD hI
 have HBZ := hD hbz
 have HW := hD hwz
 have HG := hD hg
 have HV : Hid (Blk wz g 33 (objC ⟨A0, c0, A1, c1, A2, c2, A3, c3⟩ s) /\ Blk wz (g + 1) 33 #[.slice none 0 0, .slice none 0 0, .slice none 0 0, .slice none 0 0]) := hD (by
  subst hg
  rw [<- hwz]
  refine ⟨(Blk.new _ _ _).alloc _, ?_⟩
  have := Blk.new (w.alloc (.cells (objC ⟨A0, c0, A1, c1, A2, c2, A3, c3⟩ s) 33)) 33 #[.slice none 0 0, .slice none 0 0, .slice none 0 0, .slice none 0 0]
  rwa [World.size_alloc] at this)
 have hLr : Lim 0 s.reg.length := by have := hI.reg; unfold Lim; omega
 have hLqn : s.q.length <= 100000 := by have := hI.ql; omega
 have hLq : LimL s.q := fun l hl => by have := hI.qv l hl; unfold Lim; omega
 have hll : s.lk.length <= 100000 := by have := hI.lkl; omega
 have hLmn : s.mp.length <= 100000 := by have := hI.mp.few; omega
 have hLm : LimP s.mp := fun p hp => by have := hI.mp.len p hp; unfold Lim; exact ⟨by omega, by omega⟩
 have HLr := hD hLr
 have HLqn := hD hLqn
 have HLq := hD hLq
 have Hll := hD hll
 have HLmn := hD hLmn
 have HLm := hD hLm
 clear hbz h hI hwz hg hLr hLqn hLq hll hLmn hLm
 unfold objV
 simp only [objC] at HW |-
 go_enter Tryz.func76, Tryz.ntmps76
 go_upto_region 1 with fail
 rw [HG.out]
 rw [HW.out]
 refine region_T (n := 13) (S := fun w' => Below wz.heap.size wz w') (by kernel_rfl) ?_
 have hS0 : Below wz.heap.size wz wz.drew := (Below.refl _ _).drew
 generalize wz.drew = w4 at hS0 |-
 have hS := hD hS0
 clear hS0
 refine AnyT.take (i := 0) (v := .pointer (some ⟨g, 0, none⟩)) rfl (by kernel_rfl) (by kernel_rfl) (by kernel_rfl) (by kernel_rfl) (fun _ _ _ h => h) (Or.inl ⟨by kernel_rfl, fun w _ => by go_simp⟩) hS.out ?_
 refine AnyT.take (i := 3) (v := .pointer (some ⟨g, 1, none⟩)) rfl (by kernel_rfl) (by kernel_rfl) (by kernel_rfl) (by kernel_rfl) (fun _ _ _ h => h) (Or.inl ⟨by kernel_rfl, fun w _ => by go_simp⟩) hS.out ?_
 refine AnyT.take (i := 6) (v := .pointer (some ⟨g, 2, none⟩)) rfl (by kernel_rfl) (by kernel_rfl) (by kernel_rfl) (by kernel_rfl) (fun _ _ _ h => h) (Or.inl ⟨by kernel_rfl, fun w _ => by go_simp⟩) hS.out ?_
 refine AnyT.take (i := 9) (v := .pointer (some ⟨g, 3, none⟩)) rfl (by kernel_rfl) (by kernel_rfl) (by kernel_rfl) (by kernel_rfl) (fun _ _ _ h => h) (Or.inl ⟨by kernel_rfl, fun w _ => by go_simp⟩) hS.out ?_
 refine AnyT.take (i := 1) (v := .slice A0 s.reg.length c0) rfl (by kernel_rfl) (by kernel_rfl) (by kernel_rfl) (by kernel_rfl) (fun _ _ _ h => h) (Or.inl ⟨by kernel_rfl, fun w h => by have q := (Below.cell h (p := ⟨g, 0, none⟩) HV.out.1.lt).trans (HV.out.1.cell 0); simp only [objC] at q; go_simp⟩) hS.out ?_
 refine AnyT.take (i := 4) (v := .slice A1 s.q.length c1) rfl (by kernel_rfl) (by kernel_rfl) (by kernel_rfl) (by kernel_rfl) (fun _ _ _ h => h) (Or.inl ⟨by kernel_rfl, fun w h => by have q := (Below.cell h (p := ⟨g, 1, none⟩) HV.out.1.lt).trans (HV.out.1.cell 1); simp only [objC] at q; go_simp⟩) hS.out ?_
 refine AnyT.take (i := 7) (v := .slice A2 s.lk.length c2) rfl (by kernel_rfl) (by kernel_rfl) (by kernel_rfl) (by kernel_rfl) (fun _ _ _ h => h) (Or.inl ⟨by kernel_rfl, fun w h => by have q := (Below.cell h (p := ⟨g, 2, none⟩) HV.out.1.lt).trans (HV.out.1.cell 2); simp only [objC] at q; go_simp⟩) hS.out ?_
 refine AnyT.take (i := 10) (v := .slice A3 s.mp.length c3) rfl (by kernel_rfl) (by kernel_rfl) (by kernel_rfl) (by kernel_rfl) (fun _ _ _ h => h) (Or.inl ⟨by kernel_rfl, fun w h => by have q := (Below.cell h (p := ⟨g, 3, none⟩) HV.out.1.lt).trans (HV.out.1.cell 3); simp only [objC] at q; go_simp⟩) hS.out ?_
 refine AnyT.ready (rs := [2]) (by kernel_rfl) (by simp) ?_
 refine AllT.cons rfl (fun K hK => ?_) AllT.nil
 go_simp
 refine (clone_any (W := wz) (l := s.reg) HLr.out (H.out.r0.below hS.out) hS.out).mono ?_
 rintro e w5 ⟨A5, c5, rfl, ho5, hB5, hb5⟩
 have hS := hD (hS.out.trans (hb5.mono hS.out.size))
 go_simp
 refine hK.out _ _ (Or.inr (hS.out)) (fun _ => ?_)
 clear hK K
 refine AnyT.ready (rs := [5]) (by kernel_rfl) (by simp) ?_
 refine AllT.cons rfl (fun K hK => ?_) AllT.nil
 go_simp
 refine (eachQ_any (W := wz) (qs := s.q) HLqn.out HLq.out (H.out.r1.below hS.out) hS.out).mono ?_
 rintro e w6 ⟨A6, c6, rfl, ho6, hB6, hb6⟩
 have hS := hD (hS.out.trans (hb6.mono hS.out.size))
 have ho5 := own_below ho5 hb6
 go_simp
 refine hK.out _ _ (Or.inr (hS.out)) (fun _ => ?_)
 clear hK K
 refine AnyT.ready (rs := [8]) (by kernel_rfl) (by simp) ?_
 refine AllT.cons rfl (fun K hK => ?_) AllT.nil
 go_simp
 refine (cloneI_any (W := wz) (zs := s.lk) Hll.out (H.out.r2.below hS.out) hS.out).mono ?_
 rintro e w7 ⟨A7, c7, rfl, ho7, hB7, hb7⟩
 have hS := hD (hS.out.trans (hb7.mono hS.out.size))
 have ho5 := own_below ho5 hb7
 have ho6 := ho6.below hb7
 go_simp
 refine hK.out _ _ (Or.inr (hS.out)) (fun _ => ?_)
 clear hK K
 refine AnyT.ready (rs := [11]) (by kernel_rfl) (by simp) ?_
 refine AllT.cons rfl (fun K hK => ?_) AllT.nil
 go_simp
 refine (eachP_any (W := wz) (ps := s.mp) HLmn.out HLm.out (H.out.r3.below hS.out) hS.out).mono ?_
 rintro e w8 ⟨A8, c8, rfl, ho8, hB8, hb8⟩
 have hS := hD (hS.out.trans (hb8.mono hS.out.size))
 have ho5 := own_below ho5 hb8
 have ho6 := ho6.below hb8
 have ho7 := ownsRow_below ho7 hb8
 have HK := hD (HV.out.2.below hS.out)
 obtain ⟨x0, x1, x2, x3, f0, f1, f2, f3⟩ := four HK.out
 go_simp
 refine hK.out _ _ (Or.inr (hS.out)) (fun _ => ?_)
 clear hK K
 refine AnyT.take (i := 12) (v := .agg #[.slice A5 s.reg.length c5, .slice A6 s.q.length c6, .slice A7 s.lk.length c7, .slice A8 s.mp.length c8]) rfl (by kernel_rfl) (by kernel_rfl) (by kernel_rfl) (by kernel_rfl) (fun _ _ _ h => h) (Or.inl ⟨by kernel_rfl, fun w _ => by go_simp⟩) hS.out ?_
 refine AnyT.ready (rs := [13]) (by kernel_rfl) (by simp) ?_
 refine AllT.cons rfl (fun K hK => ?_) AllT.nil
 go_simp
 refine hK.out _ _ (Or.inl rfl) (fun _ => ?_)
 clear hK K
 refine AnyT.done (by kernel_rfl) ?_ _
 go_wp2_with fail
 have k1 := HK.out.set_ 0 (.slice A5 s.reg.length c5)
 have k2 := k1.set_ 1 (.slice A6 s.q.length c6)
 have k3 := k2.set_ 2 (.slice A7 s.lk.length c7)
 have k4 := k3.set_ 3 (.slice A8 s.mp.length c8)
 refine bodyPost_ret (results_cell_row rfl _ _ _ _ _ _ _ rfl k4 Tryz.underlying33 rfl (by kernel_rfl)) rfl ?_
 have q1 : 5 ≠ 33 := by decide
 have q2 : 24 ≠ 33 := by decide
 have q3 : 3 ≠ 33 := by decide
 have q4 : 81 ≠ 33 := by decide
 have ho : OwnO wz w8 ⟨A5, c5, A6, c6, A7, c7, A8, c8⟩ s := ⟨ho5, ho6, ho7, ho8⟩
 have hwb : w.heap.size <= g + 1 := by have := HG.out; omega
 have hw : Below w.heap.size w w8 := HBZ.out.trans (hS.out.mono HBZ.out.size)
 have h3 : Below w.heap.size w ((((w8.setCell ⟨g + 1, 0, none⟩ (.slice A5 s.reg.length c5)).setCell ⟨g + 1, 1, none⟩ (.slice A6 s.q.length c6)).setCell ⟨g + 1, 2, none⟩ (.slice A7 s.lk.length c7)).setCell ⟨g + 1, 3, none⟩ (.slice A8 s.mp.length c8)) := (((hw.setCell (p := ⟨g + 1, 0, none⟩) hwb _).setCell (p := ⟨g + 1, 1, none⟩) hwb _).setCell (p := ⟨g + 1, 2, none⟩) hwb _).setCell (p := ⟨g + 1, 3, none⟩) hwb _
 exact ⟨⟨A5, c5, A6, c6, A7, c7, A8, c8⟩, rfl, ((((ho.set_t HK.out q1 q2 q3 q4).set_t k1 q1 q2 q3 q4).set_t k2 q1 q2 q3 q4).set_t k3 q1 q2 q3 q4).of HBZ.out.size, h3, h3⟩
theorem copied8 {W w : World} {a : OA} {s : Ob} {B : Nat} (hI : s.Inv) (h : RdO w B a s) (hB : Below W.heap.size W w) : Calls Tryz.prog 76 #[objV a s] w (GotObj W w s) :=
 (copied8_raw hI h).mono fun e w' ⟨a, h1, h2, h3, h4⟩ => ⟨a, h1, h2.of hB.size, hB.trans (h3.mono hB.size), h4⟩
namespace Tb
theorem here_of {ls : List Ls} {s : Int} {k : Nat} {l : Ls} (h : ∀ (j : Nat) (m : Ls), j < k -> ls[j]? = some m -> m.s ≠ s) (hl : ls[k]? = some l) (hs : l.s = s) : Tb.here ls s = some l := by
 unfold Tb.here
 have hk : k < ls.length := (List.getElem?_eq_some_iff.1 hl).1
 conv => lhs; rw [<- List.take_append_drop k ls]
 rw [List.find?_append, Tb.find_none (l := ls.take k) (fun m hm => by
  obtain ⟨j, hj, e⟩ := List.getElem_of_mem hm
  have hj2 : j < k := by rw [List.length_take] at hj; omega
  have := h j m hj2 (by rw [<- e, List.getElem_take, List.getElem?_eq_getElem])
  simpa using this)]
 have hd : ls.drop k = l :: ls.drop (k + 1) := by rw [List.drop_eq_getElem?_toList_append, hl]; rfl
 rw [hd]
 simp [hs]
theorem here_no {ls : List Ls} {s : Int} (h : ∀ (j : Nat) (m : Ls), ls[j]? = some m -> m.s ≠ s) : Tb.here ls s = none := by
 unfold Tb.here
 refine Tb.find_none fun m hm => ?_
 obtain ⟨j, hj, e⟩ := List.getElem_of_mem hm
 have := h j m (by rw [<- e]; exact List.getElem?_eq_getElem hj)
 simpa using this
def less (ls : List Ls) (s : Int) : List Ls := ls.filter fun m => decide (m.s ≠ s)
theorem less_rises {ls : List Ls} {s : Int} (h : Rises ls) : Rises (less ls s) := h.filter _
theorem less_mem {ls : List Ls} {s : Int} {m : Ls} (h : m ∈ less ls s) : m ∈ ls /\ m.s ≠ s := by
 have := List.mem_filter.1 h
 exact ⟨this.1, by simpa using this.2⟩
theorem less_len (ls : List Ls) (s : Int) : (less ls s).length <= ls.length := List.length_filter_le _ _
theorem less_take {ls : List Ls} {s : Int} {k : Nat} {l : Ls} (hl : ls[k]? = some l) : less (ls.take (k + 1)) s = if l.s = s then less (ls.take k) s else less (ls.take k) s ++ [l] := by
 unfold less
 rw [List.take_add_one, hl, List.filter_append]
 split
 · rename_i h; simp [h]
 · rename_i h; simp [h]
theorem less_at {ls : List Ls} {s : Int} {i : Nat} (hi : i <= (less ls s).length) (h : ∀ (j : Nat) (m : Ls), j < i -> (less ls s)[j]? = some m -> ¬ s < m.s) (hx : ∀ m, (less ls s)[i]? = some m -> s < m.s) : At (less ls s) s i :=
 ⟨hi, fun j m hj hm => by
   have h1 := h j m hj hm
   have h2 := (less_mem (List.mem_of_getElem? hm)).2
   omega, fun m hm => by have := hx m hm; omega⟩
theorem put_less {ls : List Ls} {l : Ls} {i : Nat} (hr : Rises ls) (h : At (less ls l.s) l.s i) : put ls l = (less ls l.s).take i ++ l :: (less ls l.s).drop i := by
 rw [<- h.put_none (l := l) (less_rises hr) (fun m hm => (less_mem (List.mem_of_getElem? hm)).2)]
 unfold put less
 rw [List.filter_filter, List.filter_filter]
 congr 1
 · refine List.filter_congr fun m _ => ?_
   by_cases h1 : m.s < l.s
   · simp [h1]; omega
   · simp [h1]
 · congr 1
   refine List.filter_congr fun m _ => ?_
   by_cases h1 : l.s < m.s
   · simp [h1]; omega
   · simp [h1]
end Tb
end Go.Proofs.YtlgpglhbbkikpaaGreat
