/- MesgRSame -/
import Derived.Test.YtneehnoolhadbaaGF27
import Derived.Test.YtneehnoolhadbaaGF28
import Derived.Test.YtneehnoolhadbaaGF51
import Derived.Deep.MidRow
namespace Go.Proofs.Ytneehnoolhadbaa
open Go.RowKit
set_option linter.unusedVariables false
theorem ch_f0_ {w : World} {g : Nat} : (Instr.fieldAt 31 (.pointer (some ⟨g, 0, none⟩)) 0).run Try.prog w = .ok (.pointer (some ⟨g, 0, none⟩)) w := by kernel_rfl
theorem ch_f1_ {w : World} {g : Nat} : (Instr.fieldAt 31 (.pointer (some ⟨g, 0, none⟩)) 1).run Try.prog w = .ok (.pointer (some ⟨g, 1, none⟩)) w := by kernel_rfl
theorem ch_f2_ {w : World} {g : Nat} : (Instr.fieldAt 31 (.pointer (some ⟨g, 0, none⟩)) 2).run Try.prog w = .ok (.pointer (some ⟨g, 2, none⟩)) w := by kernel_rfl
theorem ch_f3_ {w : World} {g : Nat} : (Instr.fieldAt 31 (.pointer (some ⟨g, 0, none⟩)) 3).run Try.prog w = .ok (.pointer (some ⟨g, 3, none⟩)) w := by kernel_rfl
theorem ch_f4_ {w : World} {g : Nat} : (Instr.fieldAt 31 (.pointer (some ⟨g, 0, none⟩)) 4).run Try.prog w = .ok (.pointer (some ⟨g, 4, none⟩)) w := by kernel_rfl
theorem ch_f5_ {w : World} {g : Nat} : (Instr.fieldAt 31 (.pointer (some ⟨g, 0, none⟩)) 5).run Try.prog w = .ok (.pointer (some ⟨g, 5, none⟩)) w := by kernel_rfl
theorem ch_f6_ {w : World} {g : Nat} : (Instr.fieldAt 31 (.pointer (some ⟨g, 0, none⟩)) 6).run Try.prog w = .ok (.pointer (some ⟨g, 6, none⟩)) w := by kernel_rfl
theorem ch_f7_ {w : World} {g : Nat} : (Instr.fieldAt 31 (.pointer (some ⟨g, 0, none⟩)) 7).run Try.prog w = .ok (.pointer (some ⟨g, 7, none⟩)) w := by kernel_rfl
theorem ch_f8_ {w : World} {g : Nat} : (Instr.fieldAt 31 (.pointer (some ⟨g, 0, none⟩)) 8).run Try.prog w = .ok (.pointer (some ⟨g, 8, none⟩)) w := by kernel_rfl
theorem ch_f9_ {w : World} {g : Nat} : (Instr.fieldAt 31 (.pointer (some ⟨g, 0, none⟩)) 9).run Try.prog w = .ok (.pointer (some ⟨g, 9, none⟩)) w := by kernel_rfl
theorem ch_f10_ {w : World} {g : Nat} : (Instr.fieldAt 31 (.pointer (some ⟨g, 0, none⟩)) 10).run Try.prog w = .ok (.pointer (some ⟨g, 10, none⟩)) w := by kernel_rfl
theorem ch_f11_ {w : World} {g : Nat} : (Instr.fieldAt 31 (.pointer (some ⟨g, 0, none⟩)) 11).run Try.prog w = .ok (.pointer (some ⟨g, 11, none⟩)) w := by kernel_rfl
theorem ch_f12_ {w : World} {g : Nat} : (Instr.fieldAt 31 (.pointer (some ⟨g, 0, none⟩)) 12).run Try.prog w = .ok (.pointer (some ⟨g, 12, none⟩)) w := by kernel_rfl
theorem ch_f13_ {w : World} {g : Nat} : (Instr.fieldAt 31 (.pointer (some ⟨g, 0, none⟩)) 13).run Try.prog w = .ok (.pointer (some ⟨g, 13, none⟩)) w := by kernel_rfl
theorem ch_f14_ {w : World} {g : Nat} : (Instr.fieldAt 31 (.pointer (some ⟨g, 0, none⟩)) 14).run Try.prog w = .ok (.pointer (some ⟨g, 14, none⟩)) w := by kernel_rfl
theorem ch_f15_ {w : World} {g : Nat} : (Instr.fieldAt 31 (.pointer (some ⟨g, 0, none⟩)) 15).run Try.prog w = .ok (.pointer (some ⟨g, 15, none⟩)) w := by kernel_rfl
theorem ch_f16_ {w : World} {g : Nat} : (Instr.fieldAt 31 (.pointer (some ⟨g, 0, none⟩)) 16).run Try.prog w = .ok (.pointer (some ⟨g, 16, none⟩)) w := by kernel_rfl
theorem ch_f17_ {w : World} {g : Nat} : (Instr.fieldAt 31 (.pointer (some ⟨g, 0, none⟩)) 17).run Try.prog w = .ok (.pointer (some ⟨g, 17, none⟩)) w := by kernel_rfl
theorem ch_ldX {w : World} {g i n c : Nat} {A : Option Addr} (h : w.cell? ⟨g, i, none⟩ = some (.slice A n c)) : (Instr.loadAt 25 (.pointer (some ⟨g, i, none⟩))).run Try.prog w = .ok (.slice A n c) w := by
  simp [go_sem, h]
theorem ch_ldY {w : World} {g i n c : Nat} {A : Option Addr} (h : w.cell? ⟨g, i, none⟩ = some (.slice A n c)) : (Instr.loadAt 22 (.pointer (some ⟨g, i, none⟩))).run Try.prog w = .ok (.slice A n c) w := by
  simp [go_sem, h]
theorem ch_gB {w : World} {x y : Operand} {p q : Bool} : (eqGuard .eql 4 x y (.bool p) (.bool q)).run Try.prog w = .ok () w := by kernel_rfl
theorem ch_gS {w : World} {x y : Operand} {p q : ByteArray} : (eqGuard .eql 9 x y (.string p) (.string q)).run Try.prog w = .ok () w := by kernel_rfl
theorem ch_eS {w : World} {p q : ByteArray} {D : Bool} (h2 : (p.toList == q.toList) = D) : (binOp .eql 9 (.string p) (.string q)).run Try.prog w = .ok (.bool D) w := by
  simp [go_sem, h2]
theorem ch_c31 {w : World} {X Y : Value} : (callFunc 10 #[X, Y]).run Try.prog w = .ok (.enter 10 #[X, Y]) w := by kernel_rfl
theorem ch_cE {w : World} {X Y : Value} : (callFunc 39 #[X, Y]).run Try.prog w = .ok (.enter 39 #[X, Y]) w := by kernel_rfl
theorem ch_ldE {w : World} {g : Nat} {cs : Array Value} (hk : Blk w g 31 cs) (hs : cs.size = 24) : (Instr.loadAt 29 (.pointer (some ⟨g, 17, none⟩))).run Try.prog w = .ok (.agg (cs.toList.drop 17).toArray) w :=
  run_loadAt_mid w g 17 29 (cs.toList.drop 17) _ (fun j v hv => by rw [List.getElem?_drop] at hv; rw [hk.cell]; simpa using hv) Try.underlying29 rfl (by rw [List.length_drop, Array.length_toList, hs]; kernel_rfl)
theorem ch_end {a : Act} {s N : Nat} {c c' : Bool} (hsz : a.tmps.size = N) (hs : s < N) (hc : c = c') : Ending.returned ((a.put (some s) (.bool c)).tmps.getD s undef) = .returned (.bool c') := by
  subst hc
  have e : (a.put (some s) (.bool c)).tmps[s]? = some (.bool c) := ch_put_eq (by omega)
  simp [e]
set_option maxHeartbeats 8000000 in
set_option maxRecDepth 100000 in
theorem refSame11 (w : World) {a a' : GA} {m m' : Mg} {B B' : Nat} (hM : m.Wide) (hM' : m'.Wide) (h : RdG w B a m) (h' : RdG w B' a' m') : Calls Try.prog 23 #[msgV a m, msgV a' m'] w fun e w' => e = .returned (.bool (decide (m = m'))) ∧ Below w.heap.size w w' := by
  obtain ⟨wa, hwa⟩ : ∃ x, (w.alloc (.cells #[.int .i64 m.kind, .int .i64 m.frm, .int .i64 m.dst, .int .i64 m.view, .int .i64 m.inst, .int .i64 m.len, .bool m.has, .int .i64 m.mem, .int .i64 m.src, .int .i64 m.pos, .int .i64 m.tot, .slice a.Ad m.data.length a.cd, .int .i64 m.hop, .int .i64 m.seq, .slice a.Ah m.hav.length a.ch, .slice a.An m.nee.length a.cn, .int .i64 m.idx, .int .i64 m.ent.s, .int .i64 m.ent.q, .int .i64 m.ent.c.kind, .int .i64 m.ent.c.who, .slice a.c.Ak m.ent.c.key.length a.c.ck, .slice a.c.Av m.ent.c.val.length a.c.cv, .slice a.c.Ao m.ent.c.old.length a.c.co] 31)).alloc (.cells #[.int .i64 m'.kind, .int .i64 m'.frm, .int .i64 m'.dst, .int .i64 m'.view, .int .i64 m'.inst, .int .i64 m'.len, .bool m'.has, .int .i64 m'.mem, .int .i64 m'.src, .int .i64 m'.pos, .int .i64 m'.tot, .slice a'.Ad m'.data.length a'.cd, .int .i64 m'.hop, .int .i64 m'.seq, .slice a'.Ah m'.hav.length a'.ch, .slice a'.An m'.nee.length a'.cn, .int .i64 m'.idx, .int .i64 m'.ent.s, .int .i64 m'.ent.q, .int .i64 m'.ent.c.kind, .int .i64 m'.ent.c.who, .slice a'.c.Ak m'.ent.c.key.length a'.c.ck, .slice a'.c.Av m'.ent.c.val.length a'.c.cv, .slice a'.c.Ao m'.ent.c.old.length a'.c.co] 31) = x := ⟨_, rfl⟩
  have bb : Below w.heap.size w wa := by rw [← hwa]; exact ((Below.refl _ _).alloc (Nat.le_refl _) _).alloc (by rw [World.size_alloc]; omega) _
  obtain ⟨g, hg⟩ : ∃ g, w.heap.size = g := ⟨_, rfl⟩
  have k1 : Blk wa g 31 #[.int .i64 m.kind, .int .i64 m.frm, .int .i64 m.dst, .int .i64 m.view, .int .i64 m.inst, .int .i64 m.len, .bool m.has, .int .i64 m.mem, .int .i64 m.src, .int .i64 m.pos, .int .i64 m.tot, .slice a.Ad m.data.length a.cd, .int .i64 m.hop, .int .i64 m.seq, .slice a.Ah m.hav.length a.ch, .slice a.An m.nee.length a.cn, .int .i64 m.idx, .int .i64 m.ent.s, .int .i64 m.ent.q, .int .i64 m.ent.c.kind, .int .i64 m.ent.c.who, .slice a.c.Ak m.ent.c.key.length a.c.ck, .slice a.c.Av m.ent.c.val.length a.c.cv, .slice a.c.Ao m.ent.c.old.length a.c.co] := by rw [← hwa, ← hg]; exact (Blk.new _ _ _).alloc _
  have k2 : Blk wa (g + 1) 31 #[.int .i64 m'.kind, .int .i64 m'.frm, .int .i64 m'.dst, .int .i64 m'.view, .int .i64 m'.inst, .int .i64 m'.len, .bool m'.has, .int .i64 m'.mem, .int .i64 m'.src, .int .i64 m'.pos, .int .i64 m'.tot, .slice a'.Ad m'.data.length a'.cd, .int .i64 m'.hop, .int .i64 m'.seq, .slice a'.Ah m'.hav.length a'.ch, .slice a'.An m'.nee.length a'.cn, .int .i64 m'.idx, .int .i64 m'.ent.s, .int .i64 m'.ent.q, .int .i64 m'.ent.c.kind, .int .i64 m'.ent.c.who, .slice a'.c.Ak m'.ent.c.key.length a'.c.ck, .slice a'.c.Av m'.ent.c.val.length a'.c.cv, .slice a'.c.Ao m'.ent.c.old.length a'.c.co] := by
    rw [← hwa, ← hg]
    have := Blk.new (w.alloc (.cells #[.int .i64 m.kind, .int .i64 m.frm, .int .i64 m.dst, .int .i64 m.view, .int .i64 m.inst, .int .i64 m.len, .bool m.has, .int .i64 m.mem, .int .i64 m.src, .int .i64 m.pos, .int .i64 m.tot, .slice a.Ad m.data.length a.cd, .int .i64 m.hop, .int .i64 m.seq, .slice a.Ah m.hav.length a.ch, .slice a.An m.nee.length a.cn, .int .i64 m.idx, .int .i64 m.ent.s, .int .i64 m.ent.q, .int .i64 m.ent.c.kind, .int .i64 m.ent.c.who, .slice a.c.Ak m.ent.c.key.length a.c.ck, .slice a.c.Av m.ent.c.val.length a.c.cv, .slice a.c.Ao m.ent.c.old.length a.c.co] 31)) 31 #[.int .i64 m'.kind, .int .i64 m'.frm, .int .i64 m'.dst, .int .i64 m'.view, .int .i64 m'.inst, .int .i64 m'.len, .bool m'.has, .int .i64 m'.mem, .int .i64 m'.src, .int .i64 m'.pos, .int .i64 m'.tot, .slice a'.Ad m'.data.length a'.cd, .int .i64 m'.hop, .int .i64 m'.seq, .slice a'.Ah m'.hav.length a'.ch, .slice a'.An m'.nee.length a'.cn, .int .i64 m'.idx, .int .i64 m'.ent.s, .int .i64 m'.ent.q, .int .i64 m'.ent.c.kind, .int .i64 m'.ent.c.who, .slice a'.c.Ak m'.ent.c.key.length a'.c.ck, .slice a'.c.Av m'.ent.c.val.length a'.c.cv, .slice a'.c.Ao m'.ent.c.old.length a'.c.co]
    rwa [World.size_alloc] at this
  have HB := Lib.hid bb
  have HWA := Lib.hid hwa
  have HG := Lib.hid hg
  have R := h.fit.below bb
  have R' := h'.fit.below bb
  obtain ⟨D0, d0⟩ : ∃ D : Bool, decide (m.kind = m'.kind) = D := ⟨_, rfl⟩
  obtain ⟨D1, d1⟩ : ∃ D : Bool, decide (m.frm = m'.frm) = D := ⟨_, rfl⟩
  obtain ⟨D2, d2⟩ : ∃ D : Bool, decide (m.dst = m'.dst) = D := ⟨_, rfl⟩
  obtain ⟨D3, d3⟩ : ∃ D : Bool, decide (m.view = m'.view) = D := ⟨_, rfl⟩
  obtain ⟨D4, d4⟩ : ∃ D : Bool, decide (m.inst = m'.inst) = D := ⟨_, rfl⟩
  obtain ⟨D5, d5⟩ : ∃ D : Bool, decide (m.len = m'.len) = D := ⟨_, rfl⟩
  obtain ⟨D6, d6⟩ : ∃ D : Bool, decide (m.has = m'.has) = D := ⟨_, rfl⟩
  obtain ⟨D7, d7⟩ : ∃ D : Bool, decide (m.mem = m'.mem) = D := ⟨_, rfl⟩
  obtain ⟨D8, d8⟩ : ∃ D : Bool, decide (m.src = m'.src) = D := ⟨_, rfl⟩
  obtain ⟨D9, d9⟩ : ∃ D : Bool, decide (m.pos = m'.pos) = D := ⟨_, rfl⟩
  obtain ⟨D10, d10⟩ : ∃ D : Bool, decide (m.tot = m'.tot) = D := ⟨_, rfl⟩
  obtain ⟨D11, d11⟩ : ∃ D : Bool, decide (m.data = m'.data) = D := ⟨_, rfl⟩
  obtain ⟨D12, d12⟩ : ∃ D : Bool, decide (m.hop = m'.hop) = D := ⟨_, rfl⟩
  obtain ⟨D13, d13⟩ : ∃ D : Bool, decide (m.seq = m'.seq) = D := ⟨_, rfl⟩
  obtain ⟨D14, d14⟩ : ∃ D : Bool, decide (m.hav = m'.hav) = D := ⟨_, rfl⟩
  obtain ⟨D15, d15⟩ : ∃ D : Bool, decide (m.nee = m'.nee) = D := ⟨_, rfl⟩
  obtain ⟨D16, d16⟩ : ∃ D : Bool, decide (m.idx = m'.idx) = D := ⟨_, rfl⟩
  obtain ⟨D17, d17⟩ : ∃ D : Bool, decide (m.ent = m'.ent) = D := ⟨_, rfl⟩
  have HD : Hid (decide (m = m') = (D0 && (D1 && (D2 && (D3 && (D4 && (D5 && (D6 && (D7 && (D8 && (D9 && (D10 && (D11 && (D12 && (D13 && (D14 && (D15 && (D16 && D17)))))))))))))))))) := Lib.hid (by
    rw [← d0, ← d1, ← d2, ← d3, ← d4, ← d5, ← d6, ← d7, ← d8, ← d9, ← d10, ← d11, ← d12, ← d13, ← d14, ← d15, ← d16, ← d17, Bool.eq_iff_iff]
    simp only [decide_eq_true_eq, Bool.and_eq_true, Mg.eq_iff])
  have r0 : (m.kind == m'.kind) = D0 := by rw [← d0, Bool.eq_iff_iff]; simp
  have r1 : (m.frm == m'.frm) = D1 := by rw [← d1, Bool.eq_iff_iff]; simp
  have r2 : (m.dst == m'.dst) = D2 := by rw [← d2, Bool.eq_iff_iff]; simp
  have r3 : (m.view == m'.view) = D3 := by rw [← d3, Bool.eq_iff_iff]; simp
  have r4 : (m.inst == m'.inst) = D4 := by rw [← d4, Bool.eq_iff_iff]; simp
  have r5 : (m.len == m'.len) = D5 := by rw [← d5, Bool.eq_iff_iff]; simp
  have r6 : (m.has == m'.has) = D6 := by rw [← d6, Bool.eq_iff_iff]; simp
  have r7 : (m.mem == m'.mem) = D7 := by rw [← d7, Bool.eq_iff_iff]; simp
  have r8 : (m.src == m'.src) = D8 := by rw [← d8, Bool.eq_iff_iff]; simp
  have r9 : (m.pos == m'.pos) = D9 := by rw [← d9, Bool.eq_iff_iff]; simp
  have r10 : (m.tot == m'.tot) = D10 := by rw [← d10, Bool.eq_iff_iff]; simp
  have r12 : (m.hop == m'.hop) = D12 := by rw [← d12, Bool.eq_iff_iff]; simp
  have r13 : (m.seq == m'.seq) = D13 := by rw [← d13, Bool.eq_iff_iff]; simp
  have r16 : (m.idx == m'.idx) = D16 := by rw [← d16, Bool.eq_iff_iff]; simp
  rw [HD.out]
  have p1 := str_of (c := a.cd) R.d
  have p2 := str_of (c := a'.cd) R'.d
  have G2 : ((strB m.data).toList == (strB m'.data).toList) = D11 := by rw [← d11]; exact strL_eq hM.d.2 hM'.d.2
  have CH : Hid (∀ wx, Below wa.heap.size wa wx → Calls Try.prog 10 #[.slice a.Ah m.hav.length a.ch, .slice a'.Ah m'.hav.length a'.ch] wx fun e w' => e = .returned (.bool D14) ∧ Below wx.heap.size wx w') := Lib.hid (fun wx hb => by rw [← d14]; exact (same_any wx _ _ _ _ _ _ _ _ _ _ (R.h.fit.below hb) (R'.h.fit.below hb) (Nat.le_trans hM.h (by unfold maxLen; omega)) (Nat.le_trans hM'.h (by unfold maxLen; omega))).mono fun e w' ⟨q1, k, q2⟩ => ⟨q1, by rw [q2]; exact ⟨rfl, rfl, rfl, Nat.le_refl _, fun _ _ => rfl⟩⟩)
  have CN : Hid (∀ wx, Below wa.heap.size wa wx → Calls Try.prog 10 #[.slice a.An m.nee.length a.cn, .slice a'.An m'.nee.length a'.cn] wx fun e w' => e = .returned (.bool D15) ∧ Below wx.heap.size wx w') := Lib.hid (fun wx hb => by rw [← d15]; exact (same_any wx _ _ _ _ _ _ _ _ _ _ (R.n.fit.below hb) (R'.n.fit.below hb) (Nat.le_trans hM.n (by unfold maxLen; omega)) (Nat.le_trans hM'.n (by unfold maxLen; omega))).mono fun e w' ⟨q1, k, q2⟩ => ⟨q1, by rw [q2]; exact ⟨rfl, rfl, rfl, Nat.le_refl _, fun _ _ => rfl⟩⟩)
  have CE : Hid (∀ wx, Below wa.heap.size wa wx → Calls Try.prog 39 #[.agg #[.int .i64 m.ent.s, .int .i64 m.ent.q, .int .i64 m.ent.c.kind, .int .i64 m.ent.c.who, .slice a.c.Ak m.ent.c.key.length a.c.ck, .slice a.c.Av m.ent.c.val.length a.c.cv, .slice a.c.Ao m.ent.c.old.length a.c.co], .agg #[.int .i64 m'.ent.s, .int .i64 m'.ent.q, .int .i64 m'.ent.c.kind, .int .i64 m'.ent.c.who, .slice a'.c.Ak m'.ent.c.key.length a'.c.ck, .slice a'.c.Av m'.ent.c.val.length a'.c.cv, .slice a'.c.Ao m'.ent.c.old.length a'.c.co]] wx fun e w' => e = .returned (.bool D17) ∧ Below wx.heap.size wx w') := Lib.hid (fun wx hb => by rw [← d17]; exact refSameEntryW wx hM.c hM'.c (R.c.fit.below hb) (R'.c.fit.below hb))
  have HF : Hid (∀ wx, Below wa.heap.size wa wx → Blk wx g 31 #[.int .i64 m.kind, .int .i64 m.frm, .int .i64 m.dst, .int .i64 m.view, .int .i64 m.inst, .int .i64 m.len, .bool m.has, .int .i64 m.mem, .int .i64 m.src, .int .i64 m.pos, .int .i64 m.tot, .slice a.Ad m.data.length a.cd, .int .i64 m.hop, .int .i64 m.seq, .slice a.Ah m.hav.length a.ch, .slice a.An m.nee.length a.cn, .int .i64 m.idx, .int .i64 m.ent.s, .int .i64 m.ent.q, .int .i64 m.ent.c.kind, .int .i64 m.ent.c.who, .slice a.c.Ak m.ent.c.key.length a.c.ck, .slice a.c.Av m.ent.c.val.length a.c.cv, .slice a.c.Ao m.ent.c.old.length a.c.co] ∧ Blk wx (g + 1) 31 #[.int .i64 m'.kind, .int .i64 m'.frm, .int .i64 m'.dst, .int .i64 m'.view, .int .i64 m'.inst, .int .i64 m'.len, .bool m'.has, .int .i64 m'.mem, .int .i64 m'.src, .int .i64 m'.pos, .int .i64 m'.tot, .slice a'.Ad m'.data.length a'.cd, .int .i64 m'.hop, .int .i64 m'.seq, .slice a'.Ah m'.hav.length a'.ch, .slice a'.An m'.nee.length a'.cn, .int .i64 m'.idx, .int .i64 m'.ent.s, .int .i64 m'.ent.q, .int .i64 m'.ent.c.kind, .int .i64 m'.ent.c.who, .slice a'.c.Ak m'.ent.c.key.length a'.c.ck, .slice a'.c.Av m'.ent.c.val.length a'.c.cv, .slice a'.c.Ao m'.ent.c.old.length a'.c.co]) := Lib.hid (fun wx hb => ⟨k1.below hb, k2.below hb⟩)
  have K1 := Lib.hid k1
  have K2 := Lib.hid k2
  clear h h' hM hM' bb k1 k2 R R' hwa hg HD d0 d1 d2 d3 d4 d5 d6 d7 d8 d9 d10 d11 d12 d13 d14 d15 d16 d17
  unfold msgV msgC
  go_enter Try.func23, Try.ntmps23
  go_upto_region 1 with fail
  rw [HG.out, HWA.out]
  clear HWA
  rename_i hK
  refine ch_region (by simp only [List.append_eq, List.cons_append, List.nil_append]; exact rfl) ?_
  refine ch_first (s := 5) (wa := wa) (N := 131) (g := g) (g' := g + 1) (tm := 31) (i := 0) (ty := 3) (X := .int .i64 m.kind) (Y := .int .i64 m'.kind) (D := D0) (by decide) (by decide) ⟨rfl, rfl, rfl⟩ ⟨rfl, rfl, rfl⟩ ⟨rfl, rfl, rfl⟩ ⟨rfl, rfl, rfl⟩ ⟨rfl, rfl, rfl⟩ rfl rfl rfl rfl (Below.refl _ _) ch_f0_ (ch_ldI (K1.out.cell 0)) ch_f0_ (ch_ldI (K2.out.cell 0)) ch_gI (by rw [← r0]; exact ch_eI) fun a0 h0 => ?_
  refine ch_group (N := 131) (s := 10) (r := 9) (gi := 5) (i := 1) (tm := 31) (ty := 3) (D := D1) (by decide) (by decide) (by decide) rfl ⟨rfl, rfl, rfl⟩ ⟨rfl, rfl, rfl⟩ ⟨rfl, rfl, rfl⟩ ⟨rfl, rfl, rfl⟩ ⟨rfl, rfl, rfl⟩ ⟨rfl, rfl, rfl⟩ ⟨rfl, rfl, rfl⟩ h0 ch_f1_ (ch_ldI (K1.out.cell 1)) ch_f1_ (ch_ldI (K2.out.cell 1)) ch_gI (by rw [← r1]; exact ch_eI) fun a1 h1 => ?_
  refine ch_group (N := 131) (s := 17) (r := 16) (gi := 12) (i := 2) (tm := 31) (ty := 3) (D := D2) (by decide) (by decide) (by decide) rfl ⟨rfl, rfl, rfl⟩ ⟨rfl, rfl, rfl⟩ ⟨rfl, rfl, rfl⟩ ⟨rfl, rfl, rfl⟩ ⟨rfl, rfl, rfl⟩ ⟨rfl, rfl, rfl⟩ ⟨rfl, rfl, rfl⟩ h1 ch_f2_ (ch_ldI (K1.out.cell 2)) ch_f2_ (ch_ldI (K2.out.cell 2)) ch_gI (by rw [← r2]; exact ch_eI) fun a2 h2 => ?_
  refine ch_group (N := 131) (s := 24) (r := 23) (gi := 19) (i := 3) (tm := 31) (ty := 3) (D := D3) (by decide) (by decide) (by decide) rfl ⟨rfl, rfl, rfl⟩ ⟨rfl, rfl, rfl⟩ ⟨rfl, rfl, rfl⟩ ⟨rfl, rfl, rfl⟩ ⟨rfl, rfl, rfl⟩ ⟨rfl, rfl, rfl⟩ ⟨rfl, rfl, rfl⟩ h2 ch_f3_ (ch_ldI (K1.out.cell 3)) ch_f3_ (ch_ldI (K2.out.cell 3)) ch_gI (by rw [← r3]; exact ch_eI) fun a3 h3 => ?_
  refine ch_group (N := 131) (s := 31) (r := 30) (gi := 26) (i := 4) (tm := 31) (ty := 3) (D := D4) (by decide) (by decide) (by decide) rfl ⟨rfl, rfl, rfl⟩ ⟨rfl, rfl, rfl⟩ ⟨rfl, rfl, rfl⟩ ⟨rfl, rfl, rfl⟩ ⟨rfl, rfl, rfl⟩ ⟨rfl, rfl, rfl⟩ ⟨rfl, rfl, rfl⟩ h3 ch_f4_ (ch_ldI (K1.out.cell 4)) ch_f4_ (ch_ldI (K2.out.cell 4)) ch_gI (by rw [← r4]; exact ch_eI) fun a4 h4 => ?_
  refine ch_group (N := 131) (s := 38) (r := 37) (gi := 33) (i := 5) (tm := 31) (ty := 3) (D := D5) (by decide) (by decide) (by decide) rfl ⟨rfl, rfl, rfl⟩ ⟨rfl, rfl, rfl⟩ ⟨rfl, rfl, rfl⟩ ⟨rfl, rfl, rfl⟩ ⟨rfl, rfl, rfl⟩ ⟨rfl, rfl, rfl⟩ ⟨rfl, rfl, rfl⟩ h4 ch_f5_ (ch_ldI (K1.out.cell 5)) ch_f5_ (ch_ldI (K2.out.cell 5)) ch_gI (by rw [← r5]; exact ch_eI) fun a5 h5 => ?_
  refine ch_group (N := 131) (s := 45) (r := 44) (gi := 40) (i := 6) (tm := 31) (ty := 4) (D := D6) (by decide) (by decide) (by decide) rfl ⟨rfl, rfl, rfl⟩ ⟨rfl, rfl, rfl⟩ ⟨rfl, rfl, rfl⟩ ⟨rfl, rfl, rfl⟩ ⟨rfl, rfl, rfl⟩ ⟨rfl, rfl, rfl⟩ ⟨rfl, rfl, rfl⟩ h5 ch_f6_ (ch_ldB (K1.out.cell 6)) ch_f6_ (ch_ldB (K2.out.cell 6)) ch_gB (by rw [← r6]; exact ch_eB) fun a6 h6 => ?_
  refine ch_group (N := 131) (s := 52) (r := 51) (gi := 47) (i := 7) (tm := 31) (ty := 3) (D := D7) (by decide) (by decide) (by decide) rfl ⟨rfl, rfl, rfl⟩ ⟨rfl, rfl, rfl⟩ ⟨rfl, rfl, rfl⟩ ⟨rfl, rfl, rfl⟩ ⟨rfl, rfl, rfl⟩ ⟨rfl, rfl, rfl⟩ ⟨rfl, rfl, rfl⟩ h6 ch_f7_ (ch_ldI (K1.out.cell 7)) ch_f7_ (ch_ldI (K2.out.cell 7)) ch_gI (by rw [← r7]; exact ch_eI) fun a7 h7 => ?_
  refine ch_group (N := 131) (s := 59) (r := 58) (gi := 54) (i := 8) (tm := 31) (ty := 3) (D := D8) (by decide) (by decide) (by decide) rfl ⟨rfl, rfl, rfl⟩ ⟨rfl, rfl, rfl⟩ ⟨rfl, rfl, rfl⟩ ⟨rfl, rfl, rfl⟩ ⟨rfl, rfl, rfl⟩ ⟨rfl, rfl, rfl⟩ ⟨rfl, rfl, rfl⟩ h7 ch_f8_ (ch_ldI (K1.out.cell 8)) ch_f8_ (ch_ldI (K2.out.cell 8)) ch_gI (by rw [← r8]; exact ch_eI) fun a8 h8 => ?_
  refine ch_group (N := 131) (s := 66) (r := 65) (gi := 61) (i := 9) (tm := 31) (ty := 3) (D := D9) (by decide) (by decide) (by decide) rfl ⟨rfl, rfl, rfl⟩ ⟨rfl, rfl, rfl⟩ ⟨rfl, rfl, rfl⟩ ⟨rfl, rfl, rfl⟩ ⟨rfl, rfl, rfl⟩ ⟨rfl, rfl, rfl⟩ ⟨rfl, rfl, rfl⟩ h8 ch_f9_ (ch_ldI (K1.out.cell 9)) ch_f9_ (ch_ldI (K2.out.cell 9)) ch_gI (by rw [← r9]; exact ch_eI) fun a9 h9 => ?_
  refine ch_group (N := 131) (s := 73) (r := 72) (gi := 68) (i := 10) (tm := 31) (ty := 3) (D := D10) (by decide) (by decide) (by decide) rfl ⟨rfl, rfl, rfl⟩ ⟨rfl, rfl, rfl⟩ ⟨rfl, rfl, rfl⟩ ⟨rfl, rfl, rfl⟩ ⟨rfl, rfl, rfl⟩ ⟨rfl, rfl, rfl⟩ ⟨rfl, rfl, rfl⟩ h9 ch_f10_ (ch_ldI (K1.out.cell 10)) ch_f10_ (ch_ldI (K2.out.cell 10)) ch_gI (by rw [← r10]; exact ch_eI) fun a10 h10 => ?_
  refine ch_groupS (N := 131) (s := 80) (r := 79) (gi := 75) (i := 11) (tm := 31) (ty := 25) (tg := 9) (D := D11) (by decide) (by decide) (by decide) rfl ⟨rfl, rfl, rfl⟩ ⟨rfl, rfl, rfl⟩ ⟨rfl, rfl, rfl⟩ ⟨rfl, rfl, rfl⟩ ⟨rfl, rfl, rfl⟩ ⟨rfl, rfl, rfl⟩ ⟨rfl, rfl, rfl⟩ ⟨rfl, rfl, rfl⟩ ⟨rfl, rfl, rfl⟩ h10 ch_f11_ (ch_ldX (K1.out.cell 11)) p1 ch_f11_ (ch_ldX (K2.out.cell 11)) p2 ch_gS (ch_eS G2) fun a11 h11 => ?_
  refine ch_group (N := 131) (s := 89) (r := 88) (gi := 84) (i := 12) (tm := 31) (ty := 3) (D := D12) (by decide) (by decide) (by decide) rfl ⟨rfl, rfl, rfl⟩ ⟨rfl, rfl, rfl⟩ ⟨rfl, rfl, rfl⟩ ⟨rfl, rfl, rfl⟩ ⟨rfl, rfl, rfl⟩ ⟨rfl, rfl, rfl⟩ ⟨rfl, rfl, rfl⟩ h11 ch_f12_ (ch_ldI (K1.out.cell 12)) ch_f12_ (ch_ldI (K2.out.cell 12)) ch_gI (by rw [← r12]; exact ch_eI) fun a12 h12 => ?_
  refine ch_group (N := 131) (s := 96) (r := 95) (gi := 91) (i := 13) (tm := 31) (ty := 3) (D := D13) (by decide) (by decide) (by decide) rfl ⟨rfl, rfl, rfl⟩ ⟨rfl, rfl, rfl⟩ ⟨rfl, rfl, rfl⟩ ⟨rfl, rfl, rfl⟩ ⟨rfl, rfl, rfl⟩ ⟨rfl, rfl, rfl⟩ ⟨rfl, rfl, rfl⟩ h12 ch_f13_ (ch_ldI (K1.out.cell 13)) ch_f13_ (ch_ldI (K2.out.cell 13)) ch_gI (by rw [← r13]; exact ch_eI) fun a13 h13 => ?_
  refine ch_groupC (N := 131) (s := 103) (r := 102) (gi := 98) (i := 14) (tm := 31) (ty := 22) (D := D14) (by decide) (by decide) (by decide) rfl ⟨rfl, rfl, rfl⟩ ⟨rfl, rfl, rfl⟩ ⟨rfl, rfl, rfl⟩ ⟨rfl, rfl, rfl⟩ ⟨rfl, rfl, rfl⟩ ⟨rfl, rfl, rfl⟩ ⟨rfl, rfl, rfl⟩ h13 ch_f14_ (ch_ldY (K1.out.cell 14)) ch_f14_ (ch_ldY (K2.out.cell 14)) ch_c31 (CH.out _ h13.b) fun a14 w14 h14 => ?_
  refine ch_groupC (N := 131) (s := 110) (r := 109) (gi := 105) (i := 15) (tm := 31) (ty := 22) (D := D15) (by decide) (by decide) (by decide) rfl ⟨rfl, rfl, rfl⟩ ⟨rfl, rfl, rfl⟩ ⟨rfl, rfl, rfl⟩ ⟨rfl, rfl, rfl⟩ ⟨rfl, rfl, rfl⟩ ⟨rfl, rfl, rfl⟩ ⟨rfl, rfl, rfl⟩ h14 ch_f15_ (ch_ldY ((HF.out _ h14.b).1.cell 15)) ch_f15_ (ch_ldY ((HF.out _ h14.b).2.cell 15)) ch_c31 (CN.out _ h14.b) fun a15 w15 h15 => ?_
  refine ch_group (N := 131) (s := 117) (r := 116) (gi := 112) (i := 16) (tm := 31) (ty := 3) (D := D16) (by decide) (by decide) (by decide) rfl ⟨rfl, rfl, rfl⟩ ⟨rfl, rfl, rfl⟩ ⟨rfl, rfl, rfl⟩ ⟨rfl, rfl, rfl⟩ ⟨rfl, rfl, rfl⟩ ⟨rfl, rfl, rfl⟩ ⟨rfl, rfl, rfl⟩ h15 ch_f16_ (ch_ldI ((HF.out _ h15.b).1.cell 16)) ch_f16_ (ch_ldI ((HF.out _ h15.b).2.cell 16)) ch_gI (by rw [← r16]; exact ch_eI) fun a16 h16 => ?_
  refine ch_groupC (N := 131) (s := 124) (r := 123) (gi := 119) (i := 17) (tm := 31) (ty := 29) (D := D17) (by decide) (by decide) (by decide) rfl ⟨rfl, rfl, rfl⟩ ⟨rfl, rfl, rfl⟩ ⟨rfl, rfl, rfl⟩ ⟨rfl, rfl, rfl⟩ ⟨rfl, rfl, rfl⟩ ⟨rfl, rfl, rfl⟩ ⟨rfl, rfl, rfl⟩ h16 ch_f17_ (ch_ldE (HF.out _ h16.b).1 rfl) ch_f17_ (ch_ldE (HF.out _ h16.b).2 rfl) ch_cE (CE.out _ h16.b) fun a17 w17 h17 => ?_
  refine ch_val (ch_free rfl) (ch_assign rfl (ch_eval h17.r)) ?_
  exact wpList_nil (hK _ _ (wp_ret (bodyPost_ret (results_tmp rfl _ _ _) (ch_put_def.trans h17.d) ⟨ch_end h17.size (by decide) (by simp only [Bool.and_assoc]), HB.out.trans (h17.b.mono HB.out.size)⟩)))
end Go.Proofs.Ytneehnoolhadbaa

