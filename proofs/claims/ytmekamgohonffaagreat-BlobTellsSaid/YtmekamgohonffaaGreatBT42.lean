/- BlobKit2 BlobRefPart -/
import Derived.Test.YtmekamgohonffaaGreatBT00
import Derived.Test.YtmekamgohonffaaGreatBT36
import Derived.Test.YtmekamgohonffaaGreatBT38
namespace Go.Proofs.YtmekamgohonffaaGreat
open Go.RowKit
set_option linter.unusedVariables false
theorem Pk.bytV_len (s : Pk.St) (m : Int) : (Pk.bytV s m).length <= (s.getD []).length := by
 rcases numN_cases s m with h | ⟨l, h1, _, _, h2⟩
 · by_cases hl : ((Pk.numS s m).getD []).length < Pk.numV s m
   · rw [(Pk.byt_no hl).1]; simp
   · rw [(Pk.byt_of hl).1, h.2]; simp
 · by_cases hl : ((Pk.numS s m).getD []).length < Pk.numV s m
   · rw [(Pk.byt_no hl).1]; simp
   · rw [(Pk.byt_of hl).1, h2, h1]
     simp only [Option.getD_some, List.length_take, List.length_drop]; omega
theorem Pk.numS_len (s : Pk.St) (m : Int) : ((Pk.numS s m).getD []).length <= (s.getD []).length := by
 rcases numN_cases s m with h | ⟨l, h1, _, _, h2⟩
 · rw [h.2]; simp
 · rw [h2, h1]; simp
theorem Sb.mb_len (l : List Nat) : (Sb.mb l).length <= l.length := by
 have h1 := Pk.bytV_len (Sb.st1 l) 1073741824
 have h2 := Pk.numS_len (Sb.st0 l) 1099511627776
 have h3 : ((Sb.st0 l).getD []).length <= l.length := by
  unfold Sb.st0
  cases hu : Fr.unf l with
  | none => simp
  | some x => obtain ⟨rfl, _⟩ := Fr.unf_is hu; simp
 unfold Sb.mb
 unfold Sb.st1 at h1 |-
 omega
theorem OwnEs.old {W w w' : World} {row : Option Nat} {A : Option Addr} {n c : Nat} {es : List En} (h : OwnEs W w A n c es) (hg : w.grownBy w' row) (ho : Old W row) : OwnEs W w' A n c es := by
 obtain ⟨vs, h1, h2⟩ := h
 exact ⟨vs, own_old h1 hg ho, h2.imp fun _ _ h => h.old hg ho⟩
theorem Pk.endOf_is (s : Pk.St) : Pk.endOf s = decide (s = some []) := by
 rcases s with _ | _ | ⟨x, s⟩ <;> simp [Pk.endOf]
theorem OwnQ.grownE {W w w' : World} {A A' : Option Addr} {n c base' size' n' c' : Nat} {xs' : List Value} {qs : List (List Nat)} (h : OwnQ W w A n c qs) (ho : w.ownsRow base' 43 size' (.slice A' n' c') n' xs') (hg : w.grownBy w' (Value.slice A' n' c').ownBlock) : OwnQ W w' A n c qs := by
 obtain ⟨vs, h1, h2⟩ := h
 exact ⟨vs, own_grown_t h1 ho (by decide) hg, ⟨h2.1, fun i l hl => by obtain ⟨A2, c2, e, h3⟩ := h2.2 i l hl; exact ⟨A2, c2, e, own_grown_t h3 ho (by decide) hg⟩⟩⟩
theorem OwnP.grownE {W w w' : World} {A A' : Option Addr} {n c base' size' n' c' : Nat} {xs' : List Value} {qs : List Pr} (h : OwnP W w A n c qs) (ho : w.ownsRow base' 43 size' (.slice A' n' c') n' xs') (hg : w.grownBy w' (Value.slice A' n' c').ownBlock) : OwnP W w' A n c qs := by
 obtain ⟨vs, h1, h2⟩ := h
 exact ⟨vs, own_grown_t h1 ho (by decide) hg, ⟨h2.1, fun i l hl => by obtain ⟨A2, c2, e, h3⟩ := h2.2 i l hl; exact ⟨A2, c2, e, own_grown_t h3 ho (by decide) hg⟩⟩⟩
theorem OwnM.grownE {W w w' : World} {A' : Option Addr} {a : MA} {m : Mc} {base' size' n' c' : Nat} {xs' : List Value} (h : OwnM W w a m) (ho : w.ownsRow base' 43 size' (.slice A' n' c') n' xs') (hg : w.grownBy w' (Value.slice A' n' c').ownBlock) : OwnM W w' a m := by
 refine ⟨⟨own_grown_t h.o.o0 ho (by decide) hg, h.o.o1.grownE ho hg, own_grown_t h.o.o2 ho (by decide) hg, h.o.o3.grownE ho hg⟩, ?_⟩
 obtain ⟨vs, h1, h2⟩ := h.t
 exact ⟨vs, own_grown_t h1 ho (by decide) hg, h2.imp fun _ _ _ h => own_grown_t h ho (by decide) hg⟩
section
variable {P : Program} {t e : TypeId} {z : Value} {bytes size : Nat} {w : World}
theorem wp_append_atE (base : Nat) (hb0 : base <= w.heap.size) (hT : CellS P t e z size bytes) {o : Oper} {a : Act} {next : Act -> World -> Prop} {Q : Exit -> Act -> World -> Prop} (s x : Operand)
 (ho : o.op = .call { callee := .builtin .append, args := #[s, x], argTypes := #[t, t] })
 {A : Option Addr} {n c : Nat} {vs : List Value} (hs : a.eval s = .slice A n c) (hown : w.ownsRow base e size (.slice A n c) n vs)
 {B : Nat} {A' : Option Addr} {m c' : Nat} {ws : List Value} (hx : a.eval x = .slice A' m c') (hr : Rd w B A' (m * size) ws) (h1 : ∀ u ∈ ws, u.oneCell' = true) (hnm : n + m <= 1073741824) (hby : bytes <= 1000)
 (h : ∀ A2 c2 w2, w2.ownsRow base e size (.slice A2 (n + m) c2) (n + m) (vs ++ ws) -> w.grownBy w2 (Value.slice A n c).ownBlock -> next (a.put o.dst (.slice A2 (n + m) c2)) w2) : o.wp P a w next Q := by
 obtain ⟨i, hi, hz, hsz, hbi⟩ := info_parts hT.info
 obtain ⟨v', w', hrun, h2, h3, h4⟩ := run_append_rdS (P := P) w base t o.type e i z size bytes hT.under hi hz hsz hbi hT.one hT.pos _ n vs hown B A' m c' ws hr h1
  (by unfold maxLen; omega) (by have := Nat.mul_le_mul hnm hby; omega) hb0
 obtain ⟨A2, c2, rfl, hr2⟩ := Rd.of_ownS h2 hT.pos
 have hgo := h A2 c2 w' h2 h3
 unfold Oper.wp execOp
 simp only [ho, resolve, invoke, builtin, Sem.run_bind, Sem.run_pure, Result.andThen_ok, List.map_toArray, List.map_cons, List.map_nil, hs, hx, hrun]
 exact hgo
theorem step_append_atE (base : Nat) (hb0 : base <= w.heap.size) (hT : CellS P t e z size bytes) {ops : Array Oper} {o : Oper} {a : Act} {K : Act -> World -> Prop} {Q : Exit -> Act -> World -> Prop} {E : Prop} (s x : Operand)
 (ho : o.op = .call { callee := .builtin .append, args := #[s, x], argTypes := #[t, t] }) (hg : o.guard = none)
 {A : Option Addr} {n c : Nat} {vs : List Value} (hs : a.eval s = .slice A n c) (hown : w.ownsRow base e size (.slice A n c) n vs)
 {B : Nat} {A' : Option Addr} {m c' : Nat} {ws : List Value} (hx : a.eval x = .slice A' m c') (hr : Rd w B A' (m * size) ws) (h1 : ∀ u ∈ ws, u.oneCell' = true) (hnm : n + m <= 1073741824) (hby : bytes <= 1000)
 (h : ∀ A2 c2 w2, w2.ownsRow base e size (.slice A2 (n + m) c2) (n + m) (vs ++ ws) -> w.grownBy w2 (Value.slice A n c).ownBlock -> K (a.put o.dst (.slice A2 (n + m) c2)) w2) :
 if Region.wanted o (yielded ops a.tmps) = true then Oper.wp P o a w K Q else E := by
 have hw : Region.wanted o (yielded ops a.tmps) = true := by simp [Region.wanted, hg]
 rw [if_pos hw]
 exact wp_append_atE base hb0 hT s x ho hs hown hx hr h1 hnm hby h
theorem wpList_append_atE (base : Nat) (hb0 : base <= w.heap.size) (hT : CellS P t e z size bytes) {ops : Array Oper} {rest : List Oper} {o : Oper} {a : Act} {Q : Exit -> Act -> World -> Prop} (s x : Operand)
 (ho : o.op = .call { callee := .builtin .append, args := #[s, x], argTypes := #[t, t] }) (hw : Region.wanted o (yielded ops a.tmps) = true)
 {A : Option Addr} {n c : Nat} {vs : List Value} (hs : a.eval s = .slice A n c) (hown : w.ownsRow base e size (.slice A n c) n vs)
 {B : Nat} {A' : Option Addr} {m c' : Nat} {ws : List Value} (hx : a.eval x = .slice A' m c') (hr : Rd w B A' (m * size) ws) (h1 : ∀ u ∈ ws, u.oneCell' = true) (hnm : n + m <= 1073741824) (hby : bytes <= 1000)
 (h : ∀ A2 c2 w2, w2.ownsRow base e size (.slice A2 (n + m) c2) (n + m) (vs ++ ws) -> w.grownBy w2 (Value.slice A n c).ownBlock -> wpList P ops Q rest (a.put o.dst (.slice A2 (n + m) c2)) w2) :
 wpList P ops Q (o :: rest) a w := by
 unfold wpList
 rw [if_pos hw]
 exact .inl (wp_append_atE base hb0 hT s x ho hs hown hx hr h1 hnm hby h)
end
theorem OwnEs.snoc {W w w' : World} {A A2 : Option Addr} {n c c2 : Nat} {vs : List Value} {es : List En} {a : CA} {e : En} (ho : w.ownsRow W.heap.size 43 7 (.slice A n c) n vs) (hc : CellsE (fun a k => OwnC W w a k) vs es) (hr : OwnC W w a e.c)
 (hg : w.grownBy w' (Value.slice A n c).ownBlock) (ho2 : w'.ownsRow W.heap.size 43 7 (.slice A2 (n + 1) c2) (n + 1) (vs ++ entL a e)) : OwnEs W w' A2 (n + 1) c2 (es ++ [e]) := by
 have hk : ∀ {a : CA} {k : Cm}, OwnC W w a k -> OwnC W w' a k := fun h => ⟨own_grown_t h.k ho (by decide) hg, own_grown_t h.v ho (by decide) hg, own_grown_t h.o ho (by decide) hg⟩
 exact ⟨vs ++ entL a e, ho2, (hc.imp fun _ _ h => hk h).append (CellsE.one (R := fun a k => OwnC W w' a k) (hk hr))⟩
theorem run_slice_ft {P : Program} {t e : TypeId} {i : TypeInfo} (ht : P.underlying t = some (.slice e)) (hi : P.info? e = some i) (hs : i.size = 1) (A : Option Addr) (n c k m : Nat) (hk : k <= m) (hm : m <= c) (w : World) :
 (Instr.slice t (.slice A n c) (some (.int .i64 (k : Int))) (some (.int .i64 (m : Int))) none).run P w = .ok (.slice (cutAt A c k) (m - k) (c - k)) w := by
 have h2 : ∀ x : Addr, x.add 0 = x := by intro x; simp [Addr.add]
 simp [Instr.slice, run_underlying ht, Instr.sliceBounds, Instr.sliceBound, asIntOf, hk, hm, sizeOf, typeInfo, hi, hs, cutAt]
set_option maxRecDepth 100000 in
theorem refPart_raw {w : World} {A : Option Addr} {n c B : Nat} {l : List Nat} {i : Int} (hi : -9223372036854775808 <= i /\ i <= 9223372036854775807) (hl : l.length <= 100000) (hc : n <= c /\ c <= maxLen) (h : Rd w B A n (bv l)) :
 Calls Tryz.prog 14 #[.slice A n c, .int .i64 i] w (GotU w w (Sb.part l i)) := by
 obtain ⟨i1, i2⟩ := hi
 obtain ⟨hc1, hc2⟩ := hc
 have hn := h.length
 have hn' : n <= 100000 := by omega
 by_cases h0 : i < 0
 · have hp : Sb.part l i = none := by unfold Sb.part; rw [if_pos (.inl h0)]
   rw [hp]
   go_enter Tryz.func14, Tryz.ntmps14
   go_wp2_with fail
   go_ret2
   exact ⟨none, 0, rfl, own_nil _ _, Below.refl _ _, Below.refl _ _⟩
 · obtain ⟨k, rfl⟩ := Int.eq_ofNat_of_zero_le (show 0 <= i by omega)
   by_cases h1 : n <= k
   · have hp : Sb.part l (k : Int) = none := by unfold Sb.part; rw [if_pos (.inr (by omega))]
     rw [hp]
     go_enter Tryz.func14, Tryz.ntmps14
     go_wp2_with fail
     go_ret2
     exact ⟨none, 0, rfl, own_nil _ _, Below.refl _ _, Below.refl _ _⟩
   · have hp : Sb.part l (k : Int) = some ((l.drop k).take 64) := by unfold Sb.part; rw [if_neg (by omega), Int.toNat_natCast]
     rw [hp]
     obtain ⟨m, hm, hm1, hm2⟩ : ∃ m : Nat, min (k + 64) n = m /\ k <= m /\ m <= n := ⟨_, rfl, by omega, by omega⟩
     have hlen : ((l.drop k).take 64).length = m - k := by rw [List.length_take, List.length_drop]; omega
     have hr2 : Rd w B (cutAt A c k) (m - k) (bv ((l.drop k).take 64)) := by
      have := (h.drop (show k <= n by omega) hc1).take (show m - k <= n - k by omega)
      rw [<- bv_drop, <- bv_take] at this
      rw [show (l.drop k).take 64 = (l.drop k).take (m - k) by
       rw [List.take_eq_take_iff, List.length_drop]; omega]
      exact this
     obtain ⟨i9, hi1, hi2, hi3, hi4⟩ := info_parts byteT.info
     have hs2 : ∀ w : World, (Instr.slice 23 (.slice A n c) (some (.int .i64 (k : Int))) (some (.int .i64 (m : Int))) none).run Tryz.prog w = .ok (.slice (cutAt A c k) (m - k) (c - k)) w := fun w => run_slice_ft (P := Tryz.prog) (t := 23) (e := 5) byteT.under hi1 hi3 A n c k m hm1 (by omega) w
     have h0own : (w.alloc (.cells #[] 5)).ownsRow w.heap.size 5 1 (.slice (some ⟨w.heap.size, 0, none⟩) 0 0) 0 (bv []) := ⟨rfl, .inr ⟨_, 0, #[], rfl, Nat.le_refl _, Blk.new _ _ _, Nat.le_refl _, by decide, rfl, rfl⟩⟩
     have hb0 : Below w.heap.size w (w.alloc (.cells #[] 5)) := (Below.refl _ _).alloc lR _
     have H0 := hD h0own
     have HB0 := hD hb0
     have HR := hD (hr2.fit.below hb0)
     have HLEN := hD hlen
     have hmk : m - k <= 64 := by omega
     clear h0own hb0 hr2 hlen h hi1 hi2 hi3 hi4 hn hl h0
     rcases Nat.lt_or_ge n (k + 64) with hlt | hge
     · obtain rfl : m = n := by omega
       clear hm
       go_enter Tryz.func14, Tryz.ntmps14
       go_wp2_with (first
        | (at_builtin
           refine wpList_append_bytes (W := w) byteT (.tmp 14) (.tmp 22) rfl (by rfl) rfl H0.out rfl HR.out (by omega) HB0.out ?_
           intro A2 c2 w2 ho _ hb)
        | fail)
       go_ret2
       rw [List.nil_append, Nat.zero_add] at ho
       exact ⟨A2, c2, by simp [HLEN.out], by simpa [HLEN.out] using ho, hb, hb⟩
     · obtain rfl : m = k + 64 := by omega
       have e64 : ((k + 64 : Nat) : Int) = (k : Int) + 64 := by omega
       rw [e64, show k + 64 - k = 64 by omega] at hs2
       rw [show k + 64 - k = 64 by omega] at HR HLEN
       clear hm e64
       go_enter Tryz.func14, Tryz.ntmps14
       go_wp2_with (first
        | (at_builtin
           refine wpList_append_bytes (W := w) byteT (.tmp 14) (.tmp 22) rfl (by rfl) rfl H0.out rfl HR.out (by omega) HB0.out ?_
           intro A2 c2 w2 ho _ hb)
        | fail)
       go_ret2
       rw [List.nil_append, Nat.zero_add] at ho
       exact ⟨A2, c2, by simp [HLEN.out], by simpa [HLEN.out] using ho, hb, hb⟩
theorem refPart15 {W w : World} {A : Option Addr} {n c B : Nat} {l : List Nat} {i : Int} {r : Option (List Nat)} (he : Sb.part l i = r) (hi : -9223372036854775808 <= i /\ i <= 9223372036854775807) (hl : l.length <= 100000) (hc : n <= c /\ c <= maxLen) (h : Rd w B A n (bv l)) (hB : Below W.heap.size W w) :
 Calls Tryz.prog 14 #[.slice A n c, .int .i64 i] w (GotU W w r) := by
 subst he
 exact (refPart_raw hi hl hc h).mono fun e w' hh => GotU.ofW hB hh
end Go.Proofs.YtmekamgohonffaaGreat
