/- Ref11Ok Ref11OkH -/
import Derived.Test.YtlfkgpllleogoaaMT37
import Derived.Test.YtlfkgpllleogoaaMT38
import Derived.Test.YtlfkgpllleogoaaMT41
import Derived.Deep.MidRow
namespace Go.Proofs.Ytlfkgpllleogoaa
open Go.RowKit
set_option linter.unusedVariables false
section
variable {w : World} {g : Nat} {x y : Operand} {p q : Int}
theorem ch_ge : (binOp .geq 3 (.int .i64 p) (.int .i64 q)).run Try.prog w = .ok (.bool (decide (q ≤ p))) w := by kernel_rfl
theorem ch_le : (binOp .leq 3 (.int .i64 p) (.int .i64 q)).run Try.prog w = .ok (.bool (decide (p ≤ q))) w := by kernel_rfl
theorem ch_ggeq : (eqGuard .geq 3 x y (.int .i64 p) (.int .i64 q)).run Try.prog w = .ok () w := by kernel_rfl
theorem ch_gleq : (eqGuard .leq 3 x y (.int .i64 p) (.int .i64 q)).run Try.prog w = .ok () w := by kernel_rfl
theorem ch_fe0 : (Instr.fieldAt 27 (.pointer (some ⟨g, 0, none⟩)) 0).run Try.prog w = .ok (.pointer (some ⟨g, 0, none⟩)) w := by kernel_rfl
theorem ch_fe1 : (Instr.fieldAt 27 (.pointer (some ⟨g, 0, none⟩)) 1).run Try.prog w = .ok (.pointer (some ⟨g, 1, none⟩)) w := by kernel_rfl
theorem ch_fc0 : (Instr.fieldAt 25 (.pointer (some ⟨g, 0, none⟩)) 0).run Try.prog w = .ok (.pointer (some ⟨g, 0, none⟩)) w := by kernel_rfl
theorem ch_fc1 : (Instr.fieldAt 25 (.pointer (some ⟨g, 0, none⟩)) 1).run Try.prog w = .ok (.pointer (some ⟨g, 1, none⟩)) w := by kernel_rfl
theorem ch_fc2 : (Instr.fieldAt 25 (.pointer (some ⟨g, 0, none⟩)) 2).run Try.prog w = .ok (.pointer (some ⟨g, 2, none⟩)) w := by kernel_rfl
theorem ch_fc3 : (Instr.fieldAt 25 (.pointer (some ⟨g, 0, none⟩)) 3).run Try.prog w = .ok (.pointer (some ⟨g, 3, none⟩)) w := by kernel_rfl
theorem ch_fc4 : (Instr.fieldAt 25 (.pointer (some ⟨g, 0, none⟩)) 4).run Try.prog w = .ok (.pointer (some ⟨g, 4, none⟩)) w := by kernel_rfl
end
theorem ch_lenX {o : Oper} {a : Act} {w : World} {A : Option Addr} {n c : Nat} {x : Operand} (ho : o.op = .call { callee := .builtin .len, args := #[x], argTypes := #[22] }) (hx : a.eval x = .slice A n c) : (execOp a.eval o).run Try.prog w = .ok (.value (.int .i64 (n : Int))) w := by
  unfold execOp
  simp only [ho, resolve, invoke, builtin, Sem.run_bind, Sem.run_pure, Result.andThen_ok, List.map_toArray, List.map_cons, List.map_nil, hx]
  simp [Builtin.len_, go_sem]
set_option maxHeartbeats 1000000 in
set_option maxRecDepth 100000 in
theorem refEntry11 (w : World) {ca : CA} {e : En} : Calls Try.prog 65 #[entV ca e] w fun en w' => en = .returned (.bool e.ok) ∧ Below w.heap.size w w' := by
  have hz : Blk ((w.alloc (.cells #[.int .i64 e.s, .int .i64 e.q, .int .i64 e.c.kind, .int .i64 e.c.who, .slice ca.Ak e.c.key.length ca.ck, .slice ca.Av e.c.val.length ca.cv, .slice ca.Ao e.c.old.length ca.co] 27)).alloc (.cells #[.int .i64 0, .int .i64 0, .slice none 0 0, .slice none 0 0, .slice none 0 0] 25)) (w.heap.size + 1) 25 #[.int .i64 0, .int .i64 0, .slice none 0 0, .slice none 0 0, .slice none 0 0] := by
    have := Blk.new (w.alloc (.cells #[.int .i64 e.s, .int .i64 e.q, .int .i64 e.c.kind, .int .i64 e.c.who, .slice ca.Ak e.c.key.length ca.ck, .slice ca.Av e.c.val.length ca.cv, .slice ca.Ao e.c.old.length ca.co] 27)) 25 #[.int .i64 0, .int .i64 0, .slice none 0 0, .slice none 0 0, .slice none 0 0]
    rwa [World.size_alloc] at this
  have k0 : Blk ((w.alloc (.cells #[.int .i64 e.s, .int .i64 e.q, .int .i64 e.c.kind, .int .i64 e.c.who, .slice ca.Ak e.c.key.length ca.ck, .slice ca.Av e.c.val.length ca.cv, .slice ca.Ao e.c.old.length ca.co] 27)).alloc (.cells #[.int .i64 0, .int .i64 0, .slice none 0 0, .slice none 0 0, .slice none 0 0] 25)) w.heap.size 27 #[.int .i64 e.s, .int .i64 e.q, .int .i64 e.c.kind, .int .i64 e.c.who, .slice ca.Ak e.c.key.length ca.ck, .slice ca.Av e.c.val.length ca.cv, .slice ca.Ao e.c.old.length ca.co] := (Blk.new _ _ _).alloc _
  have kn : Blk (w.alloc (.cells #[.int .i64 e.s, .int .i64 e.q, .int .i64 e.c.kind, .int .i64 e.c.who, .slice ca.Ak e.c.key.length ca.ck, .slice ca.Av e.c.val.length ca.cv, .slice ca.Ao e.c.old.length ca.co] 27)) w.heap.size 27 #[.int .i64 e.s, .int .i64 e.q, .int .i64 e.c.kind, .int .i64 e.c.who, .slice ca.Ak e.c.key.length ca.ck, .slice ca.Av e.c.val.length ca.cv, .slice ca.Ao e.c.old.length ca.co] := Blk.new _ _ _
  have hb : Below w.heap.size w (((w.alloc (.cells #[.int .i64 e.s, .int .i64 e.q, .int .i64 e.c.kind, .int .i64 e.c.who, .slice ca.Ak e.c.key.length ca.ck, .slice ca.Av e.c.val.length ca.cv, .slice ca.Ao e.c.old.length ca.co] 27)).alloc (.cells #[.int .i64 0, .int .i64 0, .slice none 0 0, .slice none 0 0, .slice none 0 0] 25)).setRow (w.heap.size + 1) #[.int .i64 e.c.kind, .int .i64 e.c.who, .slice ca.Ak e.c.key.length ca.ck, .slice ca.Av e.c.val.length ca.cv, .slice ca.Ao e.c.old.length ca.co]) := below_setRow (((Below.refl _ _).alloc (Nat.le_refl _) _).alloc (by rw [World.size_alloc]; omega) _) (by omega) _
  have k1 := k0.row_other (g := w.heap.size + 1) (by omega) #[.int .i64 e.c.kind, .int .i64 e.c.who, .slice ca.Ak e.c.key.length ca.ck, .slice ca.Av e.c.val.length ca.cv, .slice ca.Ao e.c.old.length ca.co]
  have k2 := hz.row #[.int .i64 e.c.kind, .int .i64 e.c.who, .slice ca.Ak e.c.key.length ca.ck, .slice ca.Av e.c.val.length ca.cv, .slice ca.Ao e.c.old.length ca.co]
  have HZ := Lib.hid hz
  have HKN := Lib.hid kn
  clear hz k0 kn
  have hv : entV ca e = .agg #[.int .i64 e.s, .int .i64 e.q, .int .i64 e.c.kind, .int .i64 e.c.who, .slice ca.Ak e.c.key.length ca.ck, .slice ca.Av e.c.val.length ca.cv, .slice ca.Ao e.c.old.length ca.co] := rfl
  rw [hv]
  clear hv
  go_enter Try.func65, Try.ntmps65
  go_upto_region 2 with (first
    | (refine wpList_load_mid rfl 25 (.tmp 4) rfl w.heap.size 2 rfl [.int .i64 e.c.kind, .int .i64 e.c.who, .slice ca.Ak e.c.key.length ca.ck, .slice ca.Av e.c.val.length ca.cv, .slice ca.Ao e.c.old.length ca.co] _ (fun j v hv => ?_) Try.underlying25 rfl (by kernel_rfl) ?_
       · have q := HKN.out.cell (2 + j)
         rw [q]
         rw [← hv]
         show (#[.int .i64 e.s, .int .i64 e.q, .int .i64 e.c.kind, .int .i64 e.c.who, .slice ca.Ak e.c.key.length ca.ck, .slice ca.Av e.c.val.length ca.cv, .slice ca.Ao e.c.old.length ca.co] : Array Value)[2 + j]? = ([.int .i64 e.c.kind, .int .i64 e.c.who, .slice ca.Ak e.c.key.length ca.ck, .slice ca.Av e.c.val.length ca.cv, .slice ca.Ao e.c.old.length ca.co] : List Value)[j]?
         rcases j with _ | _ | _ | _ | _ | j <;> rfl)
    | (refine wpList_store_row rfl 25 (.tmp 3) (.tmp 5) rfl (w.heap.size + 1) #[.int .i64 e.c.kind, .int .i64 e.c.who, .slice ca.Ak e.c.key.length ca.ck, .slice ca.Av e.c.val.length ca.cv, .slice ca.Ao e.c.old.length ca.co] rfl rfl 25 #[.int .i64 0, .int .i64 0, .slice none 0 0, .slice none 0 0, .slice none 0 0] HZ.out (by kernel_rfl) rfl (by kernel_rfl) ?_)
    | fail)
  generalize ((w.alloc (.cells #[.int .i64 e.s, .int .i64 e.q, .int .i64 e.c.kind, .int .i64 e.c.who, .slice ca.Ak e.c.key.length ca.ck, .slice ca.Av e.c.val.length ca.cv, .slice ca.Ao e.c.old.length ca.co] 27)).alloc (.cells #[.int .i64 0, .int .i64 0, .slice none 0 0, .slice none 0 0, .slice none 0 0] 25)).setRow (w.heap.size + 1) #[.int .i64 e.c.kind, .int .i64 e.c.who, .slice ca.Ak e.c.key.length ca.ck, .slice ca.Av e.c.val.length ca.cv, .slice ca.Ao e.c.old.length ca.co] = wx at hb k1 k2 ⊢
  obtain ⟨g, hg⟩ : ∃ g, w.heap.size = g := ⟨_, rfl⟩
  obtain ⟨g', hg'⟩ : ∃ g', g + 1 = g' := ⟨_, rfl⟩
  rw [hg] at k1 k2 ⊢
  rw [hg'] at k2 ⊢
  rename_i hK
  have HB := Lib.hid hb
  have K1 := Lib.hid k1
  have K2 := Lib.hid k2
  clear hb k1 k2 hg hg' HZ HKN
  refine wp_region_lit ?_
  refine ch_cmp0 (s := 6) (wa := wx) (N := 62) (ps := [(1, Value.pointer (some ⟨g, 0, none⟩)), (3, Value.pointer (some ⟨g', 0, none⟩))]) (b := 1) (g := g) (i := 0) (tm := 27) (ty := 3) (by decide) (by intro q hq; simp only [List.mem_cons, List.not_mem_nil, or_false] at hq; rcases hq with rfl | rfl <;> exact Nat.le_of_ble_eq_true rfl) ⟨rfl, rfl, rfl⟩ ⟨rfl, rfl, rfl⟩ ⟨rfl, rfl, rfl⟩ (by simp) rfl rfl (by intro q hq; simp only [List.mem_cons, List.not_mem_nil, or_false] at hq; rcases hq with rfl | rfl <;> rfl) (Below.refl _ _) ch_fe0 (ch_ldI (K1.out.cell 0)) ch_ggeq ch_ge fun a0 h0 => ?_
  refine ch_cmp (want := true) (s := 9) (gi := 3) (b := 1) (g := g) (i := 0) (tm := 27) (ty := 3) (by decide) (by intro q hq; simp only [List.mem_cons, List.not_mem_nil, or_false] at hq; rcases hq with rfl | rfl <;> exact Nat.le_of_ble_eq_true rfl) rfl ⟨rfl, rfl, rfl⟩ ⟨rfl, rfl, rfl⟩ ⟨rfl, rfl, rfl⟩ ⟨rfl, rfl, rfl⟩ ⟨rfl, rfl, rfl⟩ (.inl ⟨rfl, rfl, rfl⟩) (by simp) h0 ch_fe0 (ch_ldI ((K1.out.below h0.b).cell 0)) ch_gleq ch_le fun a1 w1 h1 => ?_
  refine ch_cmp (want := true) (s := 14) (gi := 8) (b := 1) (g := g) (i := 1) (tm := 27) (ty := 3) (by decide) (by intro q hq; simp only [List.mem_cons, List.not_mem_nil, or_false] at hq; rcases hq with rfl | rfl <;> exact Nat.le_of_ble_eq_true rfl) rfl ⟨rfl, rfl, rfl⟩ ⟨rfl, rfl, rfl⟩ ⟨rfl, rfl, rfl⟩ ⟨rfl, rfl, rfl⟩ ⟨rfl, rfl, rfl⟩ (.inl ⟨rfl, rfl, rfl⟩) (by simp) h1 ch_fe1 (ch_ldI ((K1.out.below h1.b).cell 1)) ch_ggeq ch_ge fun a2 w2 h2 => ?_
  refine ch_cmp (want := true) (s := 19) (gi := 13) (b := 1) (g := g) (i := 1) (tm := 27) (ty := 3) (by decide) (by intro q hq; simp only [List.mem_cons, List.not_mem_nil, or_false] at hq; rcases hq with rfl | rfl <;> exact Nat.le_of_ble_eq_true rfl) rfl ⟨rfl, rfl, rfl⟩ ⟨rfl, rfl, rfl⟩ ⟨rfl, rfl, rfl⟩ ⟨rfl, rfl, rfl⟩ ⟨rfl, rfl, rfl⟩ (.inl ⟨rfl, rfl, rfl⟩) (by simp) h2 ch_fe1 (ch_ldI ((K1.out.below h2.b).cell 1)) ch_gleq ch_le fun a3 w3 h3 => ?_
  refine ch_cmp (want := true) (s := 24) (gi := 18) (b := 3) (g := g') (i := 0) (tm := 25) (ty := 3) (by decide) (by intro q hq; simp only [List.mem_cons, List.not_mem_nil, or_false] at hq; rcases hq with rfl | rfl <;> exact Nat.le_of_ble_eq_true rfl) rfl ⟨rfl, rfl, rfl⟩ ⟨rfl, rfl, rfl⟩ ⟨rfl, rfl, rfl⟩ ⟨rfl, rfl, rfl⟩ ⟨rfl, rfl, rfl⟩ (.inl ⟨rfl, rfl, rfl⟩) (by simp) h3 ch_fc0 (ch_ldI ((K2.out.below h3.b).cell 0)) ch_ggeq ch_ge fun a4 w4 h4 => ?_
  refine ch_cmp (want := true) (s := 29) (gi := 23) (b := 3) (g := g') (i := 0) (tm := 25) (ty := 3) (by decide) (by intro q hq; simp only [List.mem_cons, List.not_mem_nil, or_false] at hq; rcases hq with rfl | rfl <;> exact Nat.le_of_ble_eq_true rfl) rfl ⟨rfl, rfl, rfl⟩ ⟨rfl, rfl, rfl⟩ ⟨rfl, rfl, rfl⟩ ⟨rfl, rfl, rfl⟩ ⟨rfl, rfl, rfl⟩ (.inl ⟨rfl, rfl, rfl⟩) (by simp) h4 ch_fc0 (ch_ldI ((K2.out.below h4.b).cell 0)) ch_gleq ch_le fun a5 w5 h5 => ?_
  refine ch_cmp (want := true) (s := 34) (gi := 28) (b := 3) (g := g') (i := 1) (tm := 25) (ty := 3) (by decide) (by intro q hq; simp only [List.mem_cons, List.not_mem_nil, or_false] at hq; rcases hq with rfl | rfl <;> exact Nat.le_of_ble_eq_true rfl) rfl ⟨rfl, rfl, rfl⟩ ⟨rfl, rfl, rfl⟩ ⟨rfl, rfl, rfl⟩ ⟨rfl, rfl, rfl⟩ ⟨rfl, rfl, rfl⟩ (.inl ⟨rfl, rfl, rfl⟩) (by simp) h5 ch_fc1 (ch_ldI ((K2.out.below h5.b).cell 1)) ch_ggeq ch_ge fun a6 w6 h6 => ?_
  refine ch_cmp (want := true) (s := 39) (gi := 33) (b := 3) (g := g') (i := 1) (tm := 25) (ty := 3) (by decide) (by intro q hq; simp only [List.mem_cons, List.not_mem_nil, or_false] at hq; rcases hq with rfl | rfl <;> exact Nat.le_of_ble_eq_true rfl) rfl ⟨rfl, rfl, rfl⟩ ⟨rfl, rfl, rfl⟩ ⟨rfl, rfl, rfl⟩ ⟨rfl, rfl, rfl⟩ ⟨rfl, rfl, rfl⟩ (.inl ⟨rfl, rfl, rfl⟩) (by simp) h6 ch_fc1 (ch_ldI ((K2.out.below h6.b).cell 1)) ch_gleq ch_le fun a7 w7 h7 => ?_
  refine ch_lenp (want := true) (s := 44) (gi := 38) (b := 3) (g := g') (i := 2) (tm := 25) (ty := 22) (ti := 3) (n := e.c.key.length) (by decide) (by intro q hq; simp only [List.mem_cons, List.not_mem_nil, or_false] at hq; rcases hq with rfl | rfl <;> exact Nat.le_of_ble_eq_true rfl) rfl ⟨rfl, rfl, rfl⟩ ⟨rfl, rfl, rfl⟩ ⟨rfl, rfl, rfl⟩ ⟨rfl, rfl⟩ ⟨rfl, rfl, rfl⟩ ⟨rfl, rfl, rfl⟩ (.inl ⟨rfl, rfl, rfl⟩) (by simp) h7 ch_fc2 (ch_ldX ((K2.out.below h7.b).cell 2)) (fun a' h => ch_lenX rfl h) ch_gleq ch_le fun a8 w8 h8 => ?_
  refine ch_lenp (want := true) (s := 50) (gi := 44) (b := 3) (g := g') (i := 3) (tm := 25) (ty := 22) (ti := 3) (n := e.c.val.length) (by decide) (by intro q hq; simp only [List.mem_cons, List.not_mem_nil, or_false] at hq; rcases hq with rfl | rfl <;> exact Nat.le_of_ble_eq_true rfl) rfl ⟨rfl, rfl, rfl⟩ ⟨rfl, rfl, rfl⟩ ⟨rfl, rfl, rfl⟩ ⟨rfl, rfl⟩ ⟨rfl, rfl, rfl⟩ ⟨rfl, rfl, rfl⟩ (.inl ⟨rfl, rfl, rfl⟩) (by simp) h8 ch_fc3 (ch_ldX ((K2.out.below h8.b).cell 3)) (fun a' h => ch_lenX rfl h) ch_gleq ch_le fun a9 w9 h9 => ?_
  refine ch_lenp (want := true) (s := 56) (gi := 50) (b := 3) (g := g') (i := 4) (tm := 25) (ty := 22) (ti := 3) (n := e.c.old.length) (by decide) (by intro q hq; simp only [List.mem_cons, List.not_mem_nil, or_false] at hq; rcases hq with rfl | rfl <;> exact Nat.le_of_ble_eq_true rfl) rfl ⟨rfl, rfl, rfl⟩ ⟨rfl, rfl, rfl⟩ ⟨rfl, rfl, rfl⟩ ⟨rfl, rfl⟩ ⟨rfl, rfl, rfl⟩ ⟨rfl, rfl, rfl⟩ (.inl ⟨rfl, rfl, rfl⟩) (by simp) h9 ch_fc4 (ch_ldX ((K2.out.below h9.b).cell 4)) (fun a' h => ch_lenX rfl h) ch_gleq ch_le fun a10 w10 h10 => ?_
  refine ch_val (ch_free rfl) (ch_assign rfl (ch_eval h10.r)) ?_
  exact wpList_nil (hK _ _ (wp_ret (bodyPost_ret (results_tmp rfl _ _ _) (ch_put_def.trans h10.d) ⟨ch_end h10.size (by decide) (by unfold En.ok wi cmb; rw [Bool.eq_iff_iff]; simp only [if_true, Bool.and_eq_true, decide_eq_true_eq]; omega), HB.out.trans (h10.b.mono HB.out.size)⟩)))
end Go.Proofs.Ytlfkgpllleogoaa

namespace Go.Proofs.Ytlfkgpllleogoaa
open Go.RowKit
set_option linter.unusedVariables false
/-- a row out of the middle of a block, where it is asked for -/
theorem wpList_load_midG {P : Program} {ops : Array Oper} {rest : List Oper} {op : Oper} {a : Act} {w : World} {Q : Exit → Act → World → Prop} (hw : Region.wanted op (yielded ops a.tmps) = true) (ty : TypeId) (x : Operand) (ho : op.op = .load ty x)
    (b o : Nat) (hx : a.eval x = .pointer (some ⟨b, o, none⟩)) (cs : List Value) (d : TypeDesc) (hc : w.rangeAt b o cs) (hu : P.underlying ty = some d) (hd : d.isRow = true) (hi : (P.info? ty).map (·.size) = some cs.length)
    (h : wpList P ops Q rest (a.put op.dst (.agg cs.toArray)) w) : wpList P ops Q (op :: rest) a w := by
  unfold wpList
  rw [if_pos hw]
  exact Or.inl (wp_load_mid ty x ho b o hx cs d hc hu hd hi h)
theorem refWithin_is {w : World} {A : Option Addr} {n c B : Nat} {zs : List Int} {k : Nat} {K : Int} {D : Bool} (hK : K = (k : Int)) (hD : wis k zs = D) (h : Rd w B A n (iv zs)) (hn : n ≤ 2000000) (hk : k ≤ 100) : Calls Try.prog 64 #[.slice A n c, .int .i64 K] w fun e w' => e = .returned (.bool D) ∧ w = w' := by
  subst hK; subst hD; exact refWithin w h hn k hk
theorem wis1 (x : Int) : wis 1 [x] = wi 1099511627776 x := by simp [wis]
theorem wis2 (x y : Int) : wis 2 [x, y] = (wi 1099511627776 x && wi 1099511627776 y) := by simp [wis]
set_option maxHeartbeats 4000000 in
set_option maxRecDepth 100000 in
theorem refOk_head (w : World) {a : GA} {m : Mg} (hno : m.headOk = false) : Calls Try.prog 35 #[msgV a m] w fun e w' => e = .returned (.bool false) ∧ Below w.heap.size w w' := by
  obtain ⟨wa, hwa⟩ : ∃ x, w.alloc (.cells #[.int .i64 m.kind, .int .i64 m.frm, .int .i64 m.dst, .int .i64 m.view, .int .i64 m.inst, .int .i64 m.len, .bool m.has, .int .i64 m.mem, .int .i64 m.src, .int .i64 m.pos, .int .i64 m.tot, .slice a.Ad m.data.length a.cd, .int .i64 m.hop, .int .i64 m.seq, .slice a.Ah m.hav.length a.ch, .slice a.An m.nee.length a.cn, .int .i64 m.idx, .int .i64 m.ent.s, .int .i64 m.ent.q, .int .i64 m.ent.c.kind, .int .i64 m.ent.c.who, .slice a.c.Ak m.ent.c.key.length a.c.ck, .slice a.c.Av m.ent.c.val.length a.c.cv, .slice a.c.Ao m.ent.c.old.length a.c.co] 29) = x := ⟨_, rfl⟩
  have bb : Below w.heap.size w wa := by rw [← hwa]; exact (Below.refl _ _).alloc (Nat.le_refl _) _
  obtain ⟨g, hg⟩ : ∃ g, w.heap.size = g := ⟨_, rfl⟩
  have k1 : Blk wa g 29 #[.int .i64 m.kind, .int .i64 m.frm, .int .i64 m.dst, .int .i64 m.view, .int .i64 m.inst, .int .i64 m.len, .bool m.has, .int .i64 m.mem, .int .i64 m.src, .int .i64 m.pos, .int .i64 m.tot, .slice a.Ad m.data.length a.cd, .int .i64 m.hop, .int .i64 m.seq, .slice a.Ah m.hav.length a.ch, .slice a.An m.nee.length a.cn, .int .i64 m.idx, .int .i64 m.ent.s, .int .i64 m.ent.q, .int .i64 m.ent.c.kind, .int .i64 m.ent.c.who, .slice a.c.Ak m.ent.c.key.length a.c.ck, .slice a.c.Av m.ent.c.val.length a.c.cv, .slice a.c.Ao m.ent.c.old.length a.c.co] := by rw [← hwa, ← hg]; exact Blk.new _ _ _
  have HF : Hid (∀ wx, Below wa.heap.size wa wx → Blk wx g 29 #[.int .i64 m.kind, .int .i64 m.frm, .int .i64 m.dst, .int .i64 m.view, .int .i64 m.inst, .int .i64 m.len, .bool m.has, .int .i64 m.mem, .int .i64 m.src, .int .i64 m.pos, .int .i64 m.tot, .slice a.Ad m.data.length a.cd, .int .i64 m.hop, .int .i64 m.seq, .slice a.Ah m.hav.length a.ch, .slice a.An m.nee.length a.cn, .int .i64 m.idx, .int .i64 m.ent.s, .int .i64 m.ent.q, .int .i64 m.ent.c.kind, .int .i64 m.ent.c.who, .slice a.c.Ak m.ent.c.key.length a.c.ck, .slice a.c.Av m.ent.c.val.length a.c.cv, .slice a.c.Ao m.ent.c.old.length a.c.co]) := Lib.hid (fun wx hb => k1.below hb)
  have HB := Lib.hid bb
  have HWA := Lib.hid hwa
  have HG := Lib.hid hg
  clear k1 bb hwa hg
  have hh : ¬ (0 ≤ m.frm) ∨ (0 ≤ m.frm ∧ ¬ m.frm ≤ 6) ∨ (0 ≤ m.frm ∧ m.frm ≤ 6 ∧ ¬ 0 ≤ m.dst) ∨ (0 ≤ m.frm ∧ m.frm ≤ 6 ∧ 0 ≤ m.dst ∧ ¬ m.dst ≤ 6) ∨ (0 ≤ m.frm ∧ m.frm ≤ 6 ∧ 0 ≤ m.dst ∧ m.dst ≤ 6 ∧ ¬ 0 ≤ m.view) ∨ (0 ≤ m.frm ∧ m.frm ≤ 6 ∧ 0 ≤ m.dst ∧ m.dst ≤ 6 ∧ 0 ≤ m.view ∧ ¬ m.view ≤ 1099511627776) := by
    unfold Mg.headOk at hno
    rw [← Bool.not_eq_true] at hno
    simp only [Bool.and_eq_true, wi_iff] at hno
    omega
  clear hno
  unfold msgV msgC
  go_enter Try.func35, Try.ntmps35
  go_upto_region 1 with fail
  rw [HG.out, HWA.out]
  clear HWA
  have x1 : wa.cell? ⟨g, 1, none⟩ = some (.int .i64 m.frm) := (HF.out _ (Below.refl _ _)).cell 1
  have x2 : wa.cell? ⟨g, 2, none⟩ = some (.int .i64 m.dst) := (HF.out _ (Below.refl _ _)).cell 2
  have x3 : wa.cell? ⟨g, 3, none⟩ = some (.int .i64 m.view) := (HF.out _ (Below.refl _ _)).cell 3
  rcases hh with h1 | ⟨h1, h2⟩ | ⟨h1, h2, h3⟩ | ⟨h1, h2, h3, h4⟩ | ⟨h1, h2, h3, h4, h5⟩ | ⟨h1, h2, h3, h4, h5, h6⟩
  · have q0 :  m.frm < 0 := by omega
    clear h1
    go_wp2
    go_ret
    exact ⟨rfl, HB.out⟩
  · have q0 : ¬ m.frm < 0 := by omega
    have q1 :  6 < m.frm := by omega
    clear h1 h2
    go_wp2
    go_ret
    exact ⟨rfl, HB.out⟩
  · have q0 : ¬ m.frm < 0 := by omega
    have q1 : ¬ 6 < m.frm := by omega
    have q2 :  m.dst < 0 := by omega
    clear h1 h2 h3
    go_wp2
    go_ret
    exact ⟨rfl, HB.out⟩
  · have q0 : ¬ m.frm < 0 := by omega
    have q1 : ¬ 6 < m.frm := by omega
    have q2 : ¬ m.dst < 0 := by omega
    have q3 :  6 < m.dst := by omega
    clear h1 h2 h3 h4
    go_wp2
    go_ret
    exact ⟨rfl, HB.out⟩
  · have q0 : ¬ m.frm < 0 := by omega
    have q1 : ¬ 6 < m.frm := by omega
    have q2 : ¬ m.dst < 0 := by omega
    have q3 : ¬ 6 < m.dst := by omega
    have q4 :  m.view < 0 := by omega
    clear h1 h2 h3 h4 h5
    go_wp2
    go_ret
    exact ⟨rfl, HB.out⟩
  · have q0 : ¬ m.frm < 0 := by omega
    have q1 : ¬ 6 < m.frm := by omega
    have q2 : ¬ m.dst < 0 := by omega
    have q3 : ¬ 6 < m.dst := by omega
    have q4 : ¬ m.view < 0 := by omega
    have q5 :  1099511627776 < m.view := by omega
    clear h1 h2 h3 h4 h5 h6
    go_wp2
    go_ret
    exact ⟨rfl, HB.out⟩
end Go.Proofs.Ytlfkgpllleogoaa

