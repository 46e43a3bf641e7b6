/- MesgRSame MesgRSameT MesgAwake ChainKit2 -/
import Derived.Test.YtlfkgpllleogoaaFQ03
import Derived.Test.YtlfkgpllleogoaaFQ11
import Derived.Test.YtlfkgpllleogoaaFQ16
import Derived.Test.YtlfkgpllleogoaaFQ22
import Derived.Deep.MidRow
import Derived.ArgAppend
import Derived.OwnWalk
namespace Go.Proofs.Ytlfkgpllleogoaa
open Go.RowKit
set_option linter.unusedVariables false
theorem ch_f0_ {w : World} {g : Nat} : (Instr.fieldAt 29 (.pointer (some ⟨g, 0, none⟩)) 0).run Try.prog w = .ok (.pointer (some ⟨g, 0, none⟩)) w := by kernel_rfl
theorem ch_f1_ {w : World} {g : Nat} : (Instr.fieldAt 29 (.pointer (some ⟨g, 0, none⟩)) 1).run Try.prog w = .ok (.pointer (some ⟨g, 1, none⟩)) w := by kernel_rfl
theorem ch_f2_ {w : World} {g : Nat} : (Instr.fieldAt 29 (.pointer (some ⟨g, 0, none⟩)) 2).run Try.prog w = .ok (.pointer (some ⟨g, 2, none⟩)) w := by kernel_rfl
theorem ch_f3_ {w : World} {g : Nat} : (Instr.fieldAt 29 (.pointer (some ⟨g, 0, none⟩)) 3).run Try.prog w = .ok (.pointer (some ⟨g, 3, none⟩)) w := by kernel_rfl
theorem ch_f4_ {w : World} {g : Nat} : (Instr.fieldAt 29 (.pointer (some ⟨g, 0, none⟩)) 4).run Try.prog w = .ok (.pointer (some ⟨g, 4, none⟩)) w := by kernel_rfl
theorem ch_f5_ {w : World} {g : Nat} : (Instr.fieldAt 29 (.pointer (some ⟨g, 0, none⟩)) 5).run Try.prog w = .ok (.pointer (some ⟨g, 5, none⟩)) w := by kernel_rfl
theorem ch_f6_ {w : World} {g : Nat} : (Instr.fieldAt 29 (.pointer (some ⟨g, 0, none⟩)) 6).run Try.prog w = .ok (.pointer (some ⟨g, 6, none⟩)) w := by kernel_rfl
theorem ch_f7_ {w : World} {g : Nat} : (Instr.fieldAt 29 (.pointer (some ⟨g, 0, none⟩)) 7).run Try.prog w = .ok (.pointer (some ⟨g, 7, none⟩)) w := by kernel_rfl
theorem ch_f8_ {w : World} {g : Nat} : (Instr.fieldAt 29 (.pointer (some ⟨g, 0, none⟩)) 8).run Try.prog w = .ok (.pointer (some ⟨g, 8, none⟩)) w := by kernel_rfl
theorem ch_f9_ {w : World} {g : Nat} : (Instr.fieldAt 29 (.pointer (some ⟨g, 0, none⟩)) 9).run Try.prog w = .ok (.pointer (some ⟨g, 9, none⟩)) w := by kernel_rfl
theorem ch_f10_ {w : World} {g : Nat} : (Instr.fieldAt 29 (.pointer (some ⟨g, 0, none⟩)) 10).run Try.prog w = .ok (.pointer (some ⟨g, 10, none⟩)) w := by kernel_rfl
theorem ch_f11_ {w : World} {g : Nat} : (Instr.fieldAt 29 (.pointer (some ⟨g, 0, none⟩)) 11).run Try.prog w = .ok (.pointer (some ⟨g, 11, none⟩)) w := by kernel_rfl
theorem ch_f12_ {w : World} {g : Nat} : (Instr.fieldAt 29 (.pointer (some ⟨g, 0, none⟩)) 12).run Try.prog w = .ok (.pointer (some ⟨g, 12, none⟩)) w := by kernel_rfl
theorem ch_f13_ {w : World} {g : Nat} : (Instr.fieldAt 29 (.pointer (some ⟨g, 0, none⟩)) 13).run Try.prog w = .ok (.pointer (some ⟨g, 13, none⟩)) w := by kernel_rfl
theorem ch_f14_ {w : World} {g : Nat} : (Instr.fieldAt 29 (.pointer (some ⟨g, 0, none⟩)) 14).run Try.prog w = .ok (.pointer (some ⟨g, 14, none⟩)) w := by kernel_rfl
theorem ch_f15_ {w : World} {g : Nat} : (Instr.fieldAt 29 (.pointer (some ⟨g, 0, none⟩)) 15).run Try.prog w = .ok (.pointer (some ⟨g, 15, none⟩)) w := by kernel_rfl
theorem ch_f16_ {w : World} {g : Nat} : (Instr.fieldAt 29 (.pointer (some ⟨g, 0, none⟩)) 16).run Try.prog w = .ok (.pointer (some ⟨g, 16, none⟩)) w := by kernel_rfl
theorem ch_f17_ {w : World} {g : Nat} : (Instr.fieldAt 29 (.pointer (some ⟨g, 0, none⟩)) 17).run Try.prog w = .ok (.pointer (some ⟨g, 17, none⟩)) w := by kernel_rfl
theorem ch_ldX {w : World} {g i n c : Nat} {A : Option Addr} (h : w.cell? ⟨g, i, none⟩ = some (.slice A n c)) : (Instr.loadAt 22 (.pointer (some ⟨g, i, none⟩))).run Try.prog w = .ok (.slice A n c) w := by
  simp [go_sem, h]
theorem ch_ldY {w : World} {g i n c : Nat} {A : Option Addr} (h : w.cell? ⟨g, i, none⟩ = some (.slice A n c)) : (Instr.loadAt 23 (.pointer (some ⟨g, i, none⟩))).run Try.prog w = .ok (.slice A n c) w := by
  simp [go_sem, h]
theorem ch_gB {w : World} {x y : Operand} {p q : Bool} : (eqGuard .eql 4 x y (.bool p) (.bool q)).run Try.prog w = .ok () w := by kernel_rfl
theorem ch_gS {w : World} {x y : Operand} {p q : ByteArray} : (eqGuard .eql 9 x y (.string p) (.string q)).run Try.prog w = .ok () w := by kernel_rfl
theorem ch_eS {w : World} {p q : ByteArray} {D : Bool} (h2 : (p.toList == q.toList) = D) : (binOp .eql 9 (.string p) (.string q)).run Try.prog w = .ok (.bool D) w := by
  simp [go_sem, h2]
theorem ch_c31 {w : World} {X Y : Value} : (callFunc 43 #[X, Y]).run Try.prog w = .ok (.enter 43 #[X, Y]) w := by kernel_rfl
theorem ch_cE {w : World} {X Y : Value} : (callFunc 44 #[X, Y]).run Try.prog w = .ok (.enter 44 #[X, Y]) w := by kernel_rfl
theorem ch_ldE {w : World} {g : Nat} {cs : Array Value} (hk : Blk w g 29 cs) (hs : cs.size = 24) : (Instr.loadAt 27 (.pointer (some ⟨g, 17, none⟩))).run Try.prog w = .ok (.agg (cs.toList.drop 17).toArray) w :=
  run_loadAt_mid w g 17 27 (cs.toList.drop 17) _ (fun j v hv => by rw [List.getElem?_drop] at hv; rw [hk.cell]; simpa using hv) Try.underlying27 rfl (by rw [List.length_drop, Array.length_toList, hs]; kernel_rfl)
theorem ch_end {a : Act} {s N : Nat} {c c' : Bool} (hsz : a.tmps.size = N) (hs : s < N) (hc : c = c') : Ending.returned ((a.put (some s) (.bool c)).tmps.getD s undef) = .returned (.bool c') := by
  subst hc
  have e : (a.put (some s) (.bool c)).tmps[s]? = some (.bool c) := ch_put_eq (by omega)
  simp [e]
set_option maxHeartbeats 8000000 in
set_option maxRecDepth 100000 in
theorem refSame11 (w : World) {a a' : GA} {m m' : Mg} {B B' : Nat} (hM : m.Wide) (hM' : m'.Wide) (h : RdG w B a m) (h' : RdG w B' a' m') : Calls Try.prog 18 #[msgV a m, msgV a' m'] w fun e w' => e = .returned (.bool (decide (m = m'))) ∧ Below w.heap.size w w' := by
  obtain ⟨wa, hwa⟩ : ∃ x, (w.alloc (.cells #[.int .i64 m.kind, .int .i64 m.frm, .int .i64 m.dst, .int .i64 m.view, .int .i64 m.inst, .int .i64 m.len, .bool m.has, .int .i64 m.mem, .int .i64 m.src, .int .i64 m.pos, .int .i64 m.tot, .slice a.Ad m.data.length a.cd, .int .i64 m.hop, .int .i64 m.seq, .slice a.Ah m.hav.length a.ch, .slice a.An m.nee.length a.cn, .int .i64 m.idx, .int .i64 m.ent.s, .int .i64 m.ent.q, .int .i64 m.ent.c.kind, .int .i64 m.ent.c.who, .slice a.c.Ak m.ent.c.key.length a.c.ck, .slice a.c.Av m.ent.c.val.length a.c.cv, .slice a.c.Ao m.ent.c.old.length a.c.co] 29)).alloc (.cells #[.int .i64 m'.kind, .int .i64 m'.frm, .int .i64 m'.dst, .int .i64 m'.view, .int .i64 m'.inst, .int .i64 m'.len, .bool m'.has, .int .i64 m'.mem, .int .i64 m'.src, .int .i64 m'.pos, .int .i64 m'.tot, .slice a'.Ad m'.data.length a'.cd, .int .i64 m'.hop, .int .i64 m'.seq, .slice a'.Ah m'.hav.length a'.ch, .slice a'.An m'.nee.length a'.cn, .int .i64 m'.idx, .int .i64 m'.ent.s, .int .i64 m'.ent.q, .int .i64 m'.ent.c.kind, .int .i64 m'.ent.c.who, .slice a'.c.Ak m'.ent.c.key.length a'.c.ck, .slice a'.c.Av m'.ent.c.val.length a'.c.cv, .slice a'.c.Ao m'.ent.c.old.length a'.c.co] 29) = x := ⟨_, rfl⟩
  have bb : Below w.heap.size w wa := by rw [← hwa]; exact ((Below.refl _ _).alloc (Nat.le_refl _) _).alloc (by rw [World.size_alloc]; omega) _
  obtain ⟨g, hg⟩ : ∃ g, w.heap.size = g := ⟨_, rfl⟩
  have k1 : Blk wa g 29 #[.int .i64 m.kind, .int .i64 m.frm, .int .i64 m.dst, .int .i64 m.view, .int .i64 m.inst, .int .i64 m.len, .bool m.has, .int .i64 m.mem, .int .i64 m.src, .int .i64 m.pos, .int .i64 m.tot, .slice a.Ad m.data.length a.cd, .int .i64 m.hop, .int .i64 m.seq, .slice a.Ah m.hav.length a.ch, .slice a.An m.nee.length a.cn, .int .i64 m.idx, .int .i64 m.ent.s, .int .i64 m.ent.q, .int .i64 m.ent.c.kind, .int .i64 m.ent.c.who, .slice a.c.Ak m.ent.c.key.length a.c.ck, .slice a.c.Av m.ent.c.val.length a.c.cv, .slice a.c.Ao m.ent.c.old.length a.c.co] := by rw [← hwa, ← hg]; exact (Blk.new _ _ _).alloc _
  have k2 : Blk wa (g + 1) 29 #[.int .i64 m'.kind, .int .i64 m'.frm, .int .i64 m'.dst, .int .i64 m'.view, .int .i64 m'.inst, .int .i64 m'.len, .bool m'.has, .int .i64 m'.mem, .int .i64 m'.src, .int .i64 m'.pos, .int .i64 m'.tot, .slice a'.Ad m'.data.length a'.cd, .int .i64 m'.hop, .int .i64 m'.seq, .slice a'.Ah m'.hav.length a'.ch, .slice a'.An m'.nee.length a'.cn, .int .i64 m'.idx, .int .i64 m'.ent.s, .int .i64 m'.ent.q, .int .i64 m'.ent.c.kind, .int .i64 m'.ent.c.who, .slice a'.c.Ak m'.ent.c.key.length a'.c.ck, .slice a'.c.Av m'.ent.c.val.length a'.c.cv, .slice a'.c.Ao m'.ent.c.old.length a'.c.co] := by
    rw [← hwa, ← hg]
    have := Blk.new (w.alloc (.cells #[.int .i64 m.kind, .int .i64 m.frm, .int .i64 m.dst, .int .i64 m.view, .int .i64 m.inst, .int .i64 m.len, .bool m.has, .int .i64 m.mem, .int .i64 m.src, .int .i64 m.pos, .int .i64 m.tot, .slice a.Ad m.data.length a.cd, .int .i64 m.hop, .int .i64 m.seq, .slice a.Ah m.hav.length a.ch, .slice a.An m.nee.length a.cn, .int .i64 m.idx, .int .i64 m.ent.s, .int .i64 m.ent.q, .int .i64 m.ent.c.kind, .int .i64 m.ent.c.who, .slice a.c.Ak m.ent.c.key.length a.c.ck, .slice a.c.Av m.ent.c.val.length a.c.cv, .slice a.c.Ao m.ent.c.old.length a.c.co] 29)) 29 #[.int .i64 m'.kind, .int .i64 m'.frm, .int .i64 m'.dst, .int .i64 m'.view, .int .i64 m'.inst, .int .i64 m'.len, .bool m'.has, .int .i64 m'.mem, .int .i64 m'.src, .int .i64 m'.pos, .int .i64 m'.tot, .slice a'.Ad m'.data.length a'.cd, .int .i64 m'.hop, .int .i64 m'.seq, .slice a'.Ah m'.hav.length a'.ch, .slice a'.An m'.nee.length a'.cn, .int .i64 m'.idx, .int .i64 m'.ent.s, .int .i64 m'.ent.q, .int .i64 m'.ent.c.kind, .int .i64 m'.ent.c.who, .slice a'.c.Ak m'.ent.c.key.length a'.c.ck, .slice a'.c.Av m'.ent.c.val.length a'.c.cv, .slice a'.c.Ao m'.ent.c.old.length a'.c.co]
    rwa [World.size_alloc] at this
  have HB := Lib.hid bb
  have HWA := Lib.hid hwa
  have HG := Lib.hid hg
  have R := h.fit.below bb
  have R' := h'.fit.below bb
  obtain ⟨D0, d0⟩ : ∃ D : Bool, decide (m.kind = m'.kind) = D := ⟨_, rfl⟩
  obtain ⟨D1, d1⟩ : ∃ D : Bool, decide (m.frm = m'.frm) = D := ⟨_, rfl⟩
  obtain ⟨D2, d2⟩ : ∃ D : Bool, decide (m.dst = m'.dst) = D := ⟨_, rfl⟩
  obtain ⟨D3, d3⟩ : ∃ D : Bool, decide (m.view = m'.view) = D := ⟨_, rfl⟩
  obtain ⟨D4, d4⟩ : ∃ D : Bool, decide (m.inst = m'.inst) = D := ⟨_, rfl⟩
  obtain ⟨D5, d5⟩ : ∃ D : Bool, decide (m.len = m'.len) = D := ⟨_, rfl⟩
  obtain ⟨D6, d6⟩ : ∃ D : Bool, decide (m.has = m'.has) = D := ⟨_, rfl⟩
  obtain ⟨D7, d7⟩ : ∃ D : Bool, decide (m.mem = m'.mem) = D := ⟨_, rfl⟩
  obtain ⟨D8, d8⟩ : ∃ D : Bool, decide (m.src = m'.src) = D := ⟨_, rfl⟩
  obtain ⟨D9, d9⟩ : ∃ D : Bool, decide (m.pos = m'.pos) = D := ⟨_, rfl⟩
  obtain ⟨D10, d10⟩ : ∃ D : Bool, decide (m.tot = m'.tot) = D := ⟨_, rfl⟩
  obtain ⟨D11, d11⟩ : ∃ D : Bool, decide (m.data = m'.data) = D := ⟨_, rfl⟩
  obtain ⟨D12, d12⟩ : ∃ D : Bool, decide (m.hop = m'.hop) = D := ⟨_, rfl⟩
  obtain ⟨D13, d13⟩ : ∃ D : Bool, decide (m.seq = m'.seq) = D := ⟨_, rfl⟩
  obtain ⟨D14, d14⟩ : ∃ D : Bool, decide (m.hav = m'.hav) = D := ⟨_, rfl⟩
  obtain ⟨D15, d15⟩ : ∃ D : Bool, decide (m.nee = m'.nee) = D := ⟨_, rfl⟩
  obtain ⟨D16, d16⟩ : ∃ D : Bool, decide (m.idx = m'.idx) = D := ⟨_, rfl⟩
  obtain ⟨D17, d17⟩ : ∃ D : Bool, decide (m.ent = m'.ent) = D := ⟨_, rfl⟩
  have HD : Hid (decide (m = m') = (D0 && (D1 && (D2 && (D3 && (D4 && (D5 && (D6 && (D7 && (D8 && (D9 && (D10 && (D11 && (D12 && (D13 && (D14 && (D15 && (D16 && D17)))))))))))))))))) := Lib.hid (by
    rw [← d0, ← d1, ← d2, ← d3, ← d4, ← d5, ← d6, ← d7, ← d8, ← d9, ← d10, ← d11, ← d12, ← d13, ← d14, ← d15, ← d16, ← d17, Bool.eq_iff_iff]
    simp only [decide_eq_true_eq, Bool.and_eq_true, Mg.eq_iff])
  have r0 : (m.kind == m'.kind) = D0 := by rw [← d0, Bool.eq_iff_iff]; simp
  have r1 : (m.frm == m'.frm) = D1 := by rw [← d1, Bool.eq_iff_iff]; simp
  have r2 : (m.dst == m'.dst) = D2 := by rw [← d2, Bool.eq_iff_iff]; simp
  have r3 : (m.view == m'.view) = D3 := by rw [← d3, Bool.eq_iff_iff]; simp
  have r4 : (m.inst == m'.inst) = D4 := by rw [← d4, Bool.eq_iff_iff]; simp
  have r5 : (m.len == m'.len) = D5 := by rw [← d5, Bool.eq_iff_iff]; simp
  have r6 : (m.has == m'.has) = D6 := by rw [← d6, Bool.eq_iff_iff]; simp
  have r7 : (m.mem == m'.mem) = D7 := by rw [← d7, Bool.eq_iff_iff]; simp
  have r8 : (m.src == m'.src) = D8 := by rw [← d8, Bool.eq_iff_iff]; simp
  have r9 : (m.pos == m'.pos) = D9 := by rw [← d9, Bool.eq_iff_iff]; simp
  have r10 : (m.tot == m'.tot) = D10 := by rw [← d10, Bool.eq_iff_iff]; simp
  have r12 : (m.hop == m'.hop) = D12 := by rw [← d12, Bool.eq_iff_iff]; simp
  have r13 : (m.seq == m'.seq) = D13 := by rw [← d13, Bool.eq_iff_iff]; simp
  have r16 : (m.idx == m'.idx) = D16 := by rw [← d16, Bool.eq_iff_iff]; simp
  rw [HD.out]
  have p1 := str_of (c := a.cd) R.d
  have p2 := str_of (c := a'.cd) R'.d
  have G2 : ((strB m.data).toList == (strB m'.data).toList) = D11 := by rw [← d11]; exact strL_eq hM.d.2 hM'.d.2
  have CH : Hid (∀ wx, Below wa.heap.size wa wx → Calls Try.prog 43 #[.slice a.Ah m.hav.length a.ch, .slice a'.Ah m'.hav.length a'.ch] wx fun e w' => e = .returned (.bool D14) ∧ Below wx.heap.size wx w') := Lib.hid (fun wx hb => by rw [← d14]; exact (same_any wx _ _ _ _ _ _ _ _ _ _ (R.h.fit.below hb) (R'.h.fit.below hb) (Nat.le_trans hM.h (by unfold maxLen; omega)) (Nat.le_trans hM'.h (by unfold maxLen; omega))).mono fun e w' ⟨q1, k, q2⟩ => ⟨q1, by rw [q2]; exact ⟨rfl, rfl, rfl, Nat.le_refl _, fun _ _ => rfl⟩⟩)
  have CN : Hid (∀ wx, Below wa.heap.size wa wx → Calls Try.prog 43 #[.slice a.An m.nee.length a.cn, .slice a'.An m'.nee.length a'.cn] wx fun e w' => e = .returned (.bool D15) ∧ Below wx.heap.size wx w') := Lib.hid (fun wx hb => by rw [← d15]; exact (same_any wx _ _ _ _ _ _ _ _ _ _ (R.n.fit.below hb) (R'.n.fit.below hb) (Nat.le_trans hM.n (by unfold maxLen; omega)) (Nat.le_trans hM'.n (by unfold maxLen; omega))).mono fun e w' ⟨q1, k, q2⟩ => ⟨q1, by rw [q2]; exact ⟨rfl, rfl, rfl, Nat.le_refl _, fun _ _ => rfl⟩⟩)
  have CE : Hid (∀ wx, Below wa.heap.size wa wx → Calls Try.prog 44 #[.agg #[.int .i64 m.ent.s, .int .i64 m.ent.q, .int .i64 m.ent.c.kind, .int .i64 m.ent.c.who, .slice a.c.Ak m.ent.c.key.length a.c.ck, .slice a.c.Av m.ent.c.val.length a.c.cv, .slice a.c.Ao m.ent.c.old.length a.c.co], .agg #[.int .i64 m'.ent.s, .int .i64 m'.ent.q, .int .i64 m'.ent.c.kind, .int .i64 m'.ent.c.who, .slice a'.c.Ak m'.ent.c.key.length a'.c.ck, .slice a'.c.Av m'.ent.c.val.length a'.c.cv, .slice a'.c.Ao m'.ent.c.old.length a'.c.co]] wx fun e w' => e = .returned (.bool D17) ∧ Below wx.heap.size wx w') := Lib.hid (fun wx hb => by rw [← d17]; exact refSameEntryW wx hM.c hM'.c (R.c.fit.below hb) (R'.c.fit.below hb))
  have HF : Hid (∀ wx, Below wa.heap.size wa wx → Blk wx g 29 #[.int .i64 m.kind, .int .i64 m.frm, .int .i64 m.dst, .int .i64 m.view, .int .i64 m.inst, .int .i64 m.len, .bool m.has, .int .i64 m.mem, .int .i64 m.src, .int .i64 m.pos, .int .i64 m.tot, .slice a.Ad m.data.length a.cd, .int .i64 m.hop, .int .i64 m.seq, .slice a.Ah m.hav.length a.ch, .slice a.An m.nee.length a.cn, .int .i64 m.idx, .int .i64 m.ent.s, .int .i64 m.ent.q, .int .i64 m.ent.c.kind, .int .i64 m.ent.c.who, .slice a.c.Ak m.ent.c.key.length a.c.ck, .slice a.c.Av m.ent.c.val.length a.c.cv, .slice a.c.Ao m.ent.c.old.length a.c.co] ∧ Blk wx (g + 1) 29 #[.int .i64 m'.kind, .int .i64 m'.frm, .int .i64 m'.dst, .int .i64 m'.view, .int .i64 m'.inst, .int .i64 m'.len, .bool m'.has, .int .i64 m'.mem, .int .i64 m'.src, .int .i64 m'.pos, .int .i64 m'.tot, .slice a'.Ad m'.data.length a'.cd, .int .i64 m'.hop, .int .i64 m'.seq, .slice a'.Ah m'.hav.length a'.ch, .slice a'.An m'.nee.length a'.cn, .int .i64 m'.idx, .int .i64 m'.ent.s, .int .i64 m'.ent.q, .int .i64 m'.ent.c.kind, .int .i64 m'.ent.c.who, .slice a'.c.Ak m'.ent.c.key.length a'.c.ck, .slice a'.c.Av m'.ent.c.val.length a'.c.cv, .slice a'.c.Ao m'.ent.c.old.length a'.c.co]) := Lib.hid (fun wx hb => ⟨k1.below hb, k2.below hb⟩)
  have K1 := Lib.hid k1
  have K2 := Lib.hid k2
  clear h h' hM hM' bb k1 k2 R R' hwa hg HD d0 d1 d2 d3 d4 d5 d6 d7 d8 d9 d10 d11 d12 d13 d14 d15 d16 d17
  unfold msgV msgC
  go_enter Try.func18, Try.ntmps18
  go_upto_region 1 with fail
  rw [HG.out, HWA.out]
  clear HWA
  rename_i hK
  refine ch_region (by simp only [List.append_eq, List.cons_append, List.nil_append]; exact rfl) ?_
  refine ch_first (s := 5) (wa := wa) (N := 131) (g := g) (g' := g + 1) (tm := 29) (i := 0) (ty := 3) (X := .int .i64 m.kind) (Y := .int .i64 m'.kind) (D := D0) (by decide) (by decide) ⟨rfl, rfl, rfl⟩ ⟨rfl, rfl, rfl⟩ ⟨rfl, rfl, rfl⟩ ⟨rfl, rfl, rfl⟩ ⟨rfl, rfl, rfl⟩ rfl rfl rfl rfl (Below.refl _ _) ch_f0_ (ch_ldI (K1.out.cell 0)) ch_f0_ (ch_ldI (K2.out.cell 0)) ch_gI (by rw [← r0]; exact ch_eI) fun a0 h0 => ?_
  refine ch_group (N := 131) (s := 10) (r := 9) (gi := 5) (i := 1) (tm := 29) (ty := 3) (D := D1) (by decide) (by decide) (by decide) rfl ⟨rfl, rfl, rfl⟩ ⟨rfl, rfl, rfl⟩ ⟨rfl, rfl, rfl⟩ ⟨rfl, rfl, rfl⟩ ⟨rfl, rfl, rfl⟩ ⟨rfl, rfl, rfl⟩ ⟨rfl, rfl, rfl⟩ h0 ch_f1_ (ch_ldI (K1.out.cell 1)) ch_f1_ (ch_ldI (K2.out.cell 1)) ch_gI (by rw [← r1]; exact ch_eI) fun a1 h1 => ?_
  refine ch_group (N := 131) (s := 17) (r := 16) (gi := 12) (i := 2) (tm := 29) (ty := 3) (D := D2) (by decide) (by decide) (by decide) rfl ⟨rfl, rfl, rfl⟩ ⟨rfl, rfl, rfl⟩ ⟨rfl, rfl, rfl⟩ ⟨rfl, rfl, rfl⟩ ⟨rfl, rfl, rfl⟩ ⟨rfl, rfl, rfl⟩ ⟨rfl, rfl, rfl⟩ h1 ch_f2_ (ch_ldI (K1.out.cell 2)) ch_f2_ (ch_ldI (K2.out.cell 2)) ch_gI (by rw [← r2]; exact ch_eI) fun a2 h2 => ?_
  refine ch_group (N := 131) (s := 24) (r := 23) (gi := 19) (i := 3) (tm := 29) (ty := 3) (D := D3) (by decide) (by decide) (by decide) rfl ⟨rfl, rfl, rfl⟩ ⟨rfl, rfl, rfl⟩ ⟨rfl, rfl, rfl⟩ ⟨rfl, rfl, rfl⟩ ⟨rfl, rfl, rfl⟩ ⟨rfl, rfl, rfl⟩ ⟨rfl, rfl, rfl⟩ h2 ch_f3_ (ch_ldI (K1.out.cell 3)) ch_f3_ (ch_ldI (K2.out.cell 3)) ch_gI (by rw [← r3]; exact ch_eI) fun a3 h3 => ?_
  refine ch_group (N := 131) (s := 31) (r := 30) (gi := 26) (i := 4) (tm := 29) (ty := 3) (D := D4) (by decide) (by decide) (by decide) rfl ⟨rfl, rfl, rfl⟩ ⟨rfl, rfl, rfl⟩ ⟨rfl, rfl, rfl⟩ ⟨rfl, rfl, rfl⟩ ⟨rfl, rfl, rfl⟩ ⟨rfl, rfl, rfl⟩ ⟨rfl, rfl, rfl⟩ h3 ch_f4_ (ch_ldI (K1.out.cell 4)) ch_f4_ (ch_ldI (K2.out.cell 4)) ch_gI (by rw [← r4]; exact ch_eI) fun a4 h4 => ?_
  refine ch_group (N := 131) (s := 38) (r := 37) (gi := 33) (i := 5) (tm := 29) (ty := 3) (D := D5) (by decide) (by decide) (by decide) rfl ⟨rfl, rfl, rfl⟩ ⟨rfl, rfl, rfl⟩ ⟨rfl, rfl, rfl⟩ ⟨rfl, rfl, rfl⟩ ⟨rfl, rfl, rfl⟩ ⟨rfl, rfl, rfl⟩ ⟨rfl, rfl, rfl⟩ h4 ch_f5_ (ch_ldI (K1.out.cell 5)) ch_f5_ (ch_ldI (K2.out.cell 5)) ch_gI (by rw [← r5]; exact ch_eI) fun a5 h5 => ?_
  refine ch_group (N := 131) (s := 45) (r := 44) (gi := 40) (i := 6) (tm := 29) (ty := 4) (D := D6) (by decide) (by decide) (by decide) rfl ⟨rfl, rfl, rfl⟩ ⟨rfl, rfl, rfl⟩ ⟨rfl, rfl, rfl⟩ ⟨rfl, rfl, rfl⟩ ⟨rfl, rfl, rfl⟩ ⟨rfl, rfl, rfl⟩ ⟨rfl, rfl, rfl⟩ h5 ch_f6_ (ch_ldB (K1.out.cell 6)) ch_f6_ (ch_ldB (K2.out.cell 6)) ch_gB (by rw [← r6]; exact ch_eB) fun a6 h6 => ?_
  refine ch_group (N := 131) (s := 52) (r := 51) (gi := 47) (i := 7) (tm := 29) (ty := 3) (D := D7) (by decide) (by decide) (by decide) rfl ⟨rfl, rfl, rfl⟩ ⟨rfl, rfl, rfl⟩ ⟨rfl, rfl, rfl⟩ ⟨rfl, rfl, rfl⟩ ⟨rfl, rfl, rfl⟩ ⟨rfl, rfl, rfl⟩ ⟨rfl, rfl, rfl⟩ h6 ch_f7_ (ch_ldI (K1.out.cell 7)) ch_f7_ (ch_ldI (K2.out.cell 7)) ch_gI (by rw [← r7]; exact ch_eI) fun a7 h7 => ?_
  refine ch_group (N := 131) (s := 59) (r := 58) (gi := 54) (i := 8) (tm := 29) (ty := 3) (D := D8) (by decide) (by decide) (by decide) rfl ⟨rfl, rfl, rfl⟩ ⟨rfl, rfl, rfl⟩ ⟨rfl, rfl, rfl⟩ ⟨rfl, rfl, rfl⟩ ⟨rfl, rfl, rfl⟩ ⟨rfl, rfl, rfl⟩ ⟨rfl, rfl, rfl⟩ h7 ch_f8_ (ch_ldI (K1.out.cell 8)) ch_f8_ (ch_ldI (K2.out.cell 8)) ch_gI (by rw [← r8]; exact ch_eI) fun a8 h8 => ?_
  refine ch_group (N := 131) (s := 66) (r := 65) (gi := 61) (i := 9) (tm := 29) (ty := 3) (D := D9) (by decide) (by decide) (by decide) rfl ⟨rfl, rfl, rfl⟩ ⟨rfl, rfl, rfl⟩ ⟨rfl, rfl, rfl⟩ ⟨rfl, rfl, rfl⟩ ⟨rfl, rfl, rfl⟩ ⟨rfl, rfl, rfl⟩ ⟨rfl, rfl, rfl⟩ h8 ch_f9_ (ch_ldI (K1.out.cell 9)) ch_f9_ (ch_ldI (K2.out.cell 9)) ch_gI (by rw [← r9]; exact ch_eI) fun a9 h9 => ?_
  refine ch_group (N := 131) (s := 73) (r := 72) (gi := 68) (i := 10) (tm := 29) (ty := 3) (D := D10) (by decide) (by decide) (by decide) rfl ⟨rfl, rfl, rfl⟩ ⟨rfl, rfl, rfl⟩ ⟨rfl, rfl, rfl⟩ ⟨rfl, rfl, rfl⟩ ⟨rfl, rfl, rfl⟩ ⟨rfl, rfl, rfl⟩ ⟨rfl, rfl, rfl⟩ h9 ch_f10_ (ch_ldI (K1.out.cell 10)) ch_f10_ (ch_ldI (K2.out.cell 10)) ch_gI (by rw [← r10]; exact ch_eI) fun a10 h10 => ?_
  refine ch_groupS (N := 131) (s := 80) (r := 79) (gi := 75) (i := 11) (tm := 29) (ty := 22) (tg := 9) (D := D11) (by decide) (by decide) (by decide) rfl ⟨rfl, rfl, rfl⟩ ⟨rfl, rfl, rfl⟩ ⟨rfl, rfl, rfl⟩ ⟨rfl, rfl, rfl⟩ ⟨rfl, rfl, rfl⟩ ⟨rfl, rfl, rfl⟩ ⟨rfl, rfl, rfl⟩ ⟨rfl, rfl, rfl⟩ ⟨rfl, rfl, rfl⟩ h10 ch_f11_ (ch_ldX (K1.out.cell 11)) p1 ch_f11_ (ch_ldX (K2.out.cell 11)) p2 ch_gS (ch_eS G2) fun a11 h11 => ?_
  refine ch_group (N := 131) (s := 89) (r := 88) (gi := 84) (i := 12) (tm := 29) (ty := 3) (D := D12) (by decide) (by decide) (by decide) rfl ⟨rfl, rfl, rfl⟩ ⟨rfl, rfl, rfl⟩ ⟨rfl, rfl, rfl⟩ ⟨rfl, rfl, rfl⟩ ⟨rfl, rfl, rfl⟩ ⟨rfl, rfl, rfl⟩ ⟨rfl, rfl, rfl⟩ h11 ch_f12_ (ch_ldI (K1.out.cell 12)) ch_f12_ (ch_ldI (K2.out.cell 12)) ch_gI (by rw [← r12]; exact ch_eI) fun a12 h12 => ?_
  refine ch_group (N := 131) (s := 96) (r := 95) (gi := 91) (i := 13) (tm := 29) (ty := 3) (D := D13) (by decide) (by decide) (by decide) rfl ⟨rfl, rfl, rfl⟩ ⟨rfl, rfl, rfl⟩ ⟨rfl, rfl, rfl⟩ ⟨rfl, rfl, rfl⟩ ⟨rfl, rfl, rfl⟩ ⟨rfl, rfl, rfl⟩ ⟨rfl, rfl, rfl⟩ h12 ch_f13_ (ch_ldI (K1.out.cell 13)) ch_f13_ (ch_ldI (K2.out.cell 13)) ch_gI (by rw [← r13]; exact ch_eI) fun a13 h13 => ?_
  refine ch_groupC (N := 131) (s := 103) (r := 102) (gi := 98) (i := 14) (tm := 29) (ty := 23) (D := D14) (by decide) (by decide) (by decide) rfl ⟨rfl, rfl, rfl⟩ ⟨rfl, rfl, rfl⟩ ⟨rfl, rfl, rfl⟩ ⟨rfl, rfl, rfl⟩ ⟨rfl, rfl, rfl⟩ ⟨rfl, rfl, rfl⟩ ⟨rfl, rfl, rfl⟩ h13 ch_f14_ (ch_ldY (K1.out.cell 14)) ch_f14_ (ch_ldY (K2.out.cell 14)) ch_c31 (CH.out _ h13.b) fun a14 w14 h14 => ?_
  refine ch_groupC (N := 131) (s := 110) (r := 109) (gi := 105) (i := 15) (tm := 29) (ty := 23) (D := D15) (by decide) (by decide) (by decide) rfl ⟨rfl, rfl, rfl⟩ ⟨rfl, rfl, rfl⟩ ⟨rfl, rfl, rfl⟩ ⟨rfl, rfl, rfl⟩ ⟨rfl, rfl, rfl⟩ ⟨rfl, rfl, rfl⟩ ⟨rfl, rfl, rfl⟩ h14 ch_f15_ (ch_ldY ((HF.out _ h14.b).1.cell 15)) ch_f15_ (ch_ldY ((HF.out _ h14.b).2.cell 15)) ch_c31 (CN.out _ h14.b) fun a15 w15 h15 => ?_
  refine ch_group (N := 131) (s := 117) (r := 116) (gi := 112) (i := 16) (tm := 29) (ty := 3) (D := D16) (by decide) (by decide) (by decide) rfl ⟨rfl, rfl, rfl⟩ ⟨rfl, rfl, rfl⟩ ⟨rfl, rfl, rfl⟩ ⟨rfl, rfl, rfl⟩ ⟨rfl, rfl, rfl⟩ ⟨rfl, rfl, rfl⟩ ⟨rfl, rfl, rfl⟩ h15 ch_f16_ (ch_ldI ((HF.out _ h15.b).1.cell 16)) ch_f16_ (ch_ldI ((HF.out _ h15.b).2.cell 16)) ch_gI (by rw [← r16]; exact ch_eI) fun a16 h16 => ?_
  refine ch_groupC (N := 131) (s := 124) (r := 123) (gi := 119) (i := 17) (tm := 29) (ty := 27) (D := D17) (by decide) (by decide) (by decide) rfl ⟨rfl, rfl, rfl⟩ ⟨rfl, rfl, rfl⟩ ⟨rfl, rfl, rfl⟩ ⟨rfl, rfl, rfl⟩ ⟨rfl, rfl, rfl⟩ ⟨rfl, rfl, rfl⟩ ⟨rfl, rfl, rfl⟩ h16 ch_f17_ (ch_ldE (HF.out _ h16.b).1 rfl) ch_f17_ (ch_ldE (HF.out _ h16.b).2 rfl) ch_cE (CE.out _ h16.b) fun a17 w17 h17 => ?_
  refine ch_val (ch_free rfl) (ch_assign rfl (ch_eval h17.r)) ?_
  exact wpList_nil (hK _ _ (wp_ret (bodyPost_ret (results_tmp rfl _ _ _) (ch_put_def.trans h17.d) ⟨ch_end h17.size (by decide) (by simp only [Bool.and_assoc]), HB.out.trans (h17.b.mono HB.out.size)⟩)))
end Go.Proofs.Ytlfkgpllleogoaa

namespace Go.Proofs.Ytlfkgpllleogoaa
open Go.RowKit
theorem refSame11_eq (w : World) {a a' : GA} {m m' : Mg} {B B' : Nat} (_hEq : m = m') (hM : m.Wide) (hM' : m'.Wide) (h : RdG w B a m) (h' : RdG w B' a' m') : Calls Try.prog 18 #[msgV a m, msgV a' m'] w fun e w' => e = .returned (.bool (decide (m = m'))) ∧ Below w.heap.size w w' := refSame11 w hM hM' h h'
end Go.Proofs.Ytlfkgpllleogoaa

namespace Go.Proofs.Ytlfkgpllleogoaa
open Go.RowKit
set_option linter.unusedVariables false
namespace mesgA
end mesgA
/-- a load of a whole block, where it is asked for -/
theorem wpList_load_rowG {P : Program} {ops : Array Oper} {rest : List Oper} {o : Oper} {a : Act} {w : World} {Q : Exit → Act → World → Prop} (hw : Region.wanted o (yielded ops a.tmps) = true) (ty : TypeId) (x : Operand) (ho : o.op = .load ty x)
    (g : Nat) (hx : a.eval x = .pointer (some ⟨g, 0, none⟩)) (t : TypeId) (cs : Array Value) (fr : Nat × Nat) (d : TypeDesc) (hg : w.heap[g]? = some (.cells cs t fr))
    (hu : P.underlying ty = some d) (hd : (match d with | .struct _ | .array _ _ => true | _ => false) = true) (hi : (P.info? ty).map (·.size) = some cs.size)
    (h : wpList P ops Q rest (a.put o.dst (.agg cs)) w) : wpList P ops Q (o :: rest) a w := by
  unfold wpList
  rw [if_pos hw]
  exact Or.inl (wp_load_row ty x ho g hx t cs fr d hg hu hd hi h)
end Go.Proofs.Ytlfkgpllleogoaa

namespace Go.Proofs.Ytlfkgpllleogoaa
open Go.RowKit
set_option linter.unusedVariables false
/-- what '&&' (want true) and '||' (want false) come to -/
def cmb (want c D : Bool) : Bool := if want then c && D else c || D
structure ChG (wa : World) (N : Nat) (ps : List (Nat × Value)) (r : Nat) (c : Bool) (a : Act) (w : World) : Prop where
  size : a.tmps.size = N
  d : a.defers = []
  ps : ∀ q ∈ ps, a.tmps[q.1]? = some q.2
  r : a.tmps[r]? = some (.bool c)
  b : Below wa.heap.size wa w
theorem ChG.next {wa w w' : World} {N r s t : Nat} {ps : List (Nat × Value)} {c c' : Bool} {a a' : Act} (h : ChG wa N ps r c a w) (hk : Kp s a a') (hs : ∀ q ∈ ps, q.1 < s) (ht : a'.tmps[t]? = some (.bool c')) (hb : Below w.heap.size w w') : ChG wa N ps t c' a' w' :=
  ⟨hk.size.trans h.size, hk.d.trans h.d, fun q hq => (hk.at_ q.1 (hs q hq)).trans (h.ps q hq), ht, h.b.trans (hb.mono h.b.size)⟩
section
variable {P : Program} {ops : Array Oper} {Q : Exit → Act → World → Prop} {a : Act} {w wa : World} {rest : List Oper} {N r s gi i : Nat} {ps : List (Nat × Value)} {want c D : Bool} {X Y : Value} {tm ty : TypeId}
theorem ch_wants {o : Oper} {j s : Nat} (hg : o.guard = some (j, want)) (hd : (ops[j]?).bind (·.dst) = some s) (hs : a.tmps[s]? = some (.bool c)) : Region.wanted o (yielded ops a.tmps) = (c == want) := by
  unfold Region.wanted yielded
  rw [hg]
  simp only [hd, Option.bind_some, hs]
  cases c <;> cases want <;> rfl
theorem ch_skips {l : List Oper} (hne : (c == want) = false) (hl : ∀ o ∈ l, o.guard = some (gi, want) ∧ ∃ d, o.dst = some d ∧ s < d) (hgi : (ops[gi]?).bind (·.dst) = some s) (hs : a.tmps[s]? = some (.bool c))
    (hn : ∀ a', Kp (s + 1) a a' → wpList P ops Q rest a' w) : wpList P ops Q (l ++ rest) a w := by
  induction l generalizing a with
  | nil => exact hn a ⟨rfl, rfl, fun _ _ => rfl⟩
  | cons o l ih =>
    obtain ⟨hg, d, hd, hlt⟩ := hl o (by simp)
    refine ch_no ((ch_wants hg hgi hs).trans hne) ?_
    rw [hd]
    have k := Kp.put (s := s + 1) a undef (show s + 1 ≤ d by omega)
    exact ih (fun o ho => hl o (by simp [ho])) ((k.at_ s (by omega)).trans hs) fun a' h => hn a' (k.trans h (Nat.le_refl _))
/-- one part -/
theorem ch_grp {o0 ol : Oper} {l : List Oper} {v e : Nat} {x y : Operand} (hN : s < N) (he : e < N) (hse : s < e) (hps : ∀ q ∈ ps, q.1 < s) (hgi : (ops[gi]?).bind (·.dst) = some s)
    (q0 : o0.dst = some s ∧ o0.guard = none ∧ o0.op = .move (.tmp r)) (ql : ol.dst = some e ∧ ol.guard = none ∧ ol.op = .pick (.tmp s) x y)
    (hxy : (want = true ∧ x = .tmp v ∧ y = .const (.bool false)) ∨ (want = false ∧ x = .const (.bool true) ∧ y = .tmp v))
    (hl : ∀ o ∈ l, o.guard = some (gi, want) ∧ ∃ d, o.dst = some d ∧ s < d) (hF : ChG wa N ps r c a w)
    (hrun : ∀ a1, ChG wa N ps s want a1 w → (∀ a' w', Kp (s + 1) a1 a' → a'.tmps[v]? = some (.bool D) → Below w.heap.size w w' → wpList P ops Q (ol :: rest) a' w') → wpList P ops Q (l ++ ol :: rest) a1 w)
    (hn : ∀ a' w', ChG wa N ps e (cmb want c D) a' w' → wpList P ops Q rest a' w') : wpList P ops Q (o0 :: (l ++ ol :: rest)) a w := by
  obtain ⟨d0, g0, p0⟩ := q0
  obtain ⟨d6, g6, p6⟩ := ql
  have hsz := hF.size
  refine ch_val (ch_free g0) (ch_move p0 (ch_eval hF.r)) ?_
  rw [d0]
  have k1 := Kp.put (s := s) a (.bool c) (Nat.le_refl _)
  have v1 : (a.put (some s) (.bool c)).tmps[s]? = some (.bool c) := ch_put_eq (by omega)
  generalize a.put (some s) (.bool c) = a1 at k1 v1 ⊢
  have h1 : ChG wa N ps s c a1 w := hF.next k1 hps v1 (Below.refl _ _)
  have hps1 : ∀ q ∈ ps, q.1 < s + 1 := fun q hq => Nat.lt_succ_of_lt (hps q hq)
  cases hcw : (c == want) with
  | false =>
    refine ch_skips hcw hl hgi v1 fun a' hk => ?_
    have hv := (hk.at_ s (by omega)).trans v1
    refine ch_val (ch_free g6) (ch_pick p6 (ch_eval hv)) ?_
    rw [d6]
    have hval : (if c = true then a'.eval x else a'.eval y) = .bool (cmb want c D) := by
      rcases hxy with ⟨rfl, rfl, rfl⟩ | ⟨rfl, rfl, rfl⟩ <;> cases c <;> first | rfl | cases hcw
    rw [hval]
    have k6 := Kp.put (s := s + 1) a' (.bool (cmb want c D)) (show s + 1 ≤ e by omega)
    exact hn _ _ (h1.next (hk.trans k6 (Nat.le_refl _)) hps1 (ch_put_eq (by rw [hk.size, h1.size]; exact he)) (Below.refl _ _))
  | true =>
    have hc : c = want := by simpa using hcw
    subst hc
    refine hrun a1 h1 fun a' w' hk hvv hb => ?_
    have hv := (hk.at_ s (by omega)).trans v1
    refine ch_val (ch_free g6) (ch_pick p6 (ch_eval hv)) ?_
    rw [d6]
    have hval : (if c = true then a'.eval x else a'.eval y) = .bool (cmb c c D) := by
      rcases hxy with ⟨rfl, rfl, rfl⟩ | ⟨rfl, rfl, rfl⟩
      · rw [if_pos rfl, ch_eval hvv]; rfl
      · rw [if_neg (by decide), ch_eval hvv]; rfl
    rw [hval]
    have k6 := Kp.put (s := s + 1) a' (.bool (cmb c c D)) (show s + 1 ≤ e by omega)
    exact hn _ _ (h1.next (hk.trans k6 (Nat.le_refl _)) hps1 (ch_put_eq (by rw [hk.size, h1.size]; exact he)) hb)
/-- an operation of such a part, wanted -/
theorem ch_go {o : Oper} {a1 : Act} {d : Nat} {v : Value} {w' : World} (hg : o.guard = some (gi, want)) (hd : o.dst = some d) (hgi : (ops[gi]?).bind (·.dst) = some s) (hs : a1.tmps[s]? = some (.bool want)) (hk : Kp (s + 1) a1 a) (hsd : s + 1 ≤ d) (hN : d < a1.tmps.size)
    (h : (execOp a.eval o).run P w = .ok (.value v) w') (hn : ∀ a', Kp (s + 1) a1 a' → Kp d a a' → a'.tmps[d]? = some v → wpList P ops Q rest a' w') : wpList P ops Q (o :: rest) a w := by
  refine ch_val ((ch_wants hg hgi ((hk.at_ s (by omega)).trans hs)).trans (by cases want <;> rfl)) h ?_
  rw [hd]
  exact hn _ (hk.trans (Kp.put (s := s + 1) a v hsd) (Nat.le_refl _)) (Kp.put (s := d) a v (Nat.le_refl _)) (ch_put_eq (by rw [hk.size]; exact hN))
/-- a part: a field compared with a number -/
theorem ch_cmp {o0 o1 o2 o3 ol : Oper} {b g : Nat} {x y : Operand} {op : BinOp} {ty' : TypeId} {K : Value} (hN : s + 4 < N) (hps : ∀ q ∈ ps, q.1 < s) (hgi : (ops[gi]?).bind (·.dst) = some s)
    (q0 : o0.dst = some s ∧ o0.guard = none ∧ o0.op = .move (.tmp r)) (q1 : o1.dst = some (s + 1) ∧ o1.guard = some (gi, want) ∧ o1.op = .fieldAddr tm (.tmp b) i)
    (q2 : o2.dst = some (s + 2) ∧ o2.guard = some (gi, want) ∧ o2.op = .load ty (.tmp (s + 1))) (q3 : o3.dst = some (s + 3) ∧ o3.guard = some (gi, want) ∧ o3.op = .binOp op ty (.tmp (s + 2)) (.const K) ty')
    (ql : ol.dst = some (s + 4) ∧ ol.guard = none ∧ ol.op = .pick (.tmp s) x y)
    (hxy : (want = true ∧ x = .tmp (s + 3) ∧ y = .const (.bool false)) ∨ (want = false ∧ x = .const (.bool true) ∧ y = .tmp (s + 3)))
    (hb : (b, Value.pointer (some ⟨g, 0, none⟩)) ∈ ps) (hF : ChG wa N ps r c a w)
    (f1 : (Instr.fieldAt tm (.pointer (some ⟨g, 0, none⟩)) i).run P w = .ok (.pointer (some ⟨g, i, none⟩)) w) (l1 : (Instr.loadAt ty (.pointer (some ⟨g, i, none⟩))).run P w = .ok X w)
    (e1 : (eqGuard op ty (.tmp (s + 2)) (.const K) X K).run P w = .ok () w) (e2 : (binOp op ty X K).run P w = .ok (.bool D) w)
    (hn : ∀ a' w', ChG wa N ps (s + 4) (cmb want c D) a' w' → wpList P ops Q rest a' w') : wpList P ops Q (o0 :: o1 :: o2 :: o3 :: ol :: rest) a w := by
  obtain ⟨d1, g1, p1⟩ := q1
  obtain ⟨d2, g2, p2⟩ := q2
  obtain ⟨d3, g3, p3⟩ := q3
  refine ch_grp (l := [o1, o2, o3]) (v := s + 3) (e := s + 4) (by omega) hN (by omega) hps hgi q0 ql hxy ?_ hF ?_ hn
  · intro o ho
    simp only [List.mem_cons, List.not_mem_nil, or_false] at ho
    rcases ho with rfl | rfl | rfl
    · exact ⟨g1, _, d1, by omega⟩
    · exact ⟨g2, _, d2, by omega⟩
    · exact ⟨g3, _, d3, by omega⟩
  · intro a1 h1 hK
    have k0 : Kp (s + 1) a1 a1 := ⟨rfl, rfl, fun _ _ => rfl⟩
    have hsz := h1.size
    refine ch_go g1 d1 hgi h1.r k0 (Nat.le_refl _) (by omega) (ch_field p1 (ch_eval (h1.ps _ hb)) f1) fun a2 m2 _ u2 => ?_
    refine ch_go g2 d2 hgi h1.r m2 (by omega) (by omega) (ch_load p2 (ch_eval u2) l1) fun a3 m3 _ u3 => ?_
    refine ch_go g3 d3 hgi h1.r m3 (by omega) (by omega) (ch_bin p3 (ch_eval u3) rfl e1 e2) fun a4 m4 _ u4 => ?_
    exact hK a4 w m4 u4 (Below.refl _ _)
/-- a part: a field's length compared with a number -/
theorem ch_lenp {o0 o1 o2 o2l o3 ol : Oper} {b g n cp : Nat} {A : Option Addr} {x y : Operand} {op : BinOp} {ti ti' : TypeId} {K : Value} (hN : s + 5 < N) (hps : ∀ q ∈ ps, q.1 < s) (hgi : (ops[gi]?).bind (·.dst) = some s)
    (q0 : o0.dst = some s ∧ o0.guard = none ∧ o0.op = .move (.tmp r)) (q1 : o1.dst = some (s + 1) ∧ o1.guard = some (gi, want) ∧ o1.op = .fieldAddr tm (.tmp b) i)
    (q2 : o2.dst = some (s + 2) ∧ o2.guard = some (gi, want) ∧ o2.op = .load ty (.tmp (s + 1))) (q2l : o2l.dst = some (s + 3) ∧ o2l.guard = some (gi, want))
    (q3 : o3.dst = some (s + 4) ∧ o3.guard = some (gi, want) ∧ o3.op = .binOp op ti (.tmp (s + 3)) (.const K) ti')
    (ql : ol.dst = some (s + 5) ∧ ol.guard = none ∧ ol.op = .pick (.tmp s) x y)
    (hxy : (want = true ∧ x = .tmp (s + 4) ∧ y = .const (.bool false)) ∨ (want = false ∧ x = .const (.bool true) ∧ y = .tmp (s + 4)))
    (hb : (b, Value.pointer (some ⟨g, 0, none⟩)) ∈ ps) (hF : ChG wa N ps r c a w)
    (f1 : (Instr.fieldAt tm (.pointer (some ⟨g, 0, none⟩)) i).run P w = .ok (.pointer (some ⟨g, i, none⟩)) w) (l1 : (Instr.loadAt ty (.pointer (some ⟨g, i, none⟩))).run P w = .ok (.slice A n cp) w)
    (hlen : ∀ a' : Act, a'.eval (.tmp (s + 2)) = .slice A n cp → (execOp a'.eval o2l).run P w = .ok (.value (.int .i64 (n : Int))) w)
    (e1 : (eqGuard op ti (.tmp (s + 3)) (.const K) (.int .i64 (n : Int)) K).run P w = .ok () w) (e2 : (binOp op ti (.int .i64 (n : Int)) K).run P w = .ok (.bool D) w)
    (hn : ∀ a' w', ChG wa N ps (s + 5) (cmb want c D) a' w' → wpList P ops Q rest a' w') : wpList P ops Q (o0 :: o1 :: o2 :: o2l :: o3 :: ol :: rest) a w := by
  obtain ⟨d1, g1, p1⟩ := q1
  obtain ⟨d2, g2, p2⟩ := q2
  obtain ⟨d2l, g2l⟩ := q2l
  obtain ⟨d3, g3, p3⟩ := q3
  refine ch_grp (l := [o1, o2, o2l, o3]) (v := s + 4) (e := s + 5) (by omega) hN (by omega) hps hgi q0 ql hxy ?_ hF ?_ hn
  · intro o ho
    simp only [List.mem_cons, List.not_mem_nil, or_false] at ho
    rcases ho with rfl | rfl | rfl | rfl
    · exact ⟨g1, _, d1, by omega⟩
    · exact ⟨g2, _, d2, by omega⟩
    · exact ⟨g2l, _, d2l, by omega⟩
    · exact ⟨g3, _, d3, by omega⟩
  · intro a1 h1 hK
    have k0 : Kp (s + 1) a1 a1 := ⟨rfl, rfl, fun _ _ => rfl⟩
    have hsz := h1.size
    refine ch_go g1 d1 hgi h1.r k0 (Nat.le_refl _) (by omega) (ch_field p1 (ch_eval (h1.ps _ hb)) f1) fun a2 m2 _ u2 => ?_
    refine ch_go g2 d2 hgi h1.r m2 (by omega) (by omega) (ch_load p2 (ch_eval u2) l1) fun a3 m3 _ u3 => ?_
    refine ch_go g2l d2l hgi h1.r m3 (by omega) (by omega) (hlen a3 (ch_eval u3)) fun a4 m4 _ u4 => ?_
    refine ch_go g3 d3 hgi h1.r m4 (by omega) (by omega) (ch_bin p3 (ch_eval u4) rfl e1 e2) fun a5 m5 _ u5 => ?_
    exact hK a5 w m5 u5 (Below.refl _ _)
/-- the first part: a field compared with a number -/
theorem ch_cmp0 {o1 o2 o3 : Oper} {b g : Nat} {op : BinOp} {ty' : TypeId} {K : Value} (hN : s + 2 < N) (hps : ∀ q ∈ ps, q.1 < s)
    (q1 : o1.dst = some s ∧ o1.guard = none ∧ o1.op = .fieldAddr tm (.tmp b) i)
    (q2 : o2.dst = some (s + 1) ∧ o2.guard = none ∧ o2.op = .load ty (.tmp s)) (q3 : o3.dst = some (s + 2) ∧ o3.guard = none ∧ o3.op = .binOp op ty (.tmp (s + 1)) (.const K) ty')
    (hb : (b, Value.pointer (some ⟨g, 0, none⟩)) ∈ ps) (hsz : a.tmps.size = N) (hd : a.defers = []) (hp : ∀ q ∈ ps, a.tmps[q.1]? = some q.2) (hbl : Below wa.heap.size wa w)
    (f1 : (Instr.fieldAt tm (.pointer (some ⟨g, 0, none⟩)) i).run P w = .ok (.pointer (some ⟨g, i, none⟩)) w) (l1 : (Instr.loadAt ty (.pointer (some ⟨g, i, none⟩))).run P w = .ok X w)
    (e1 : (eqGuard op ty (.tmp (s + 1)) (.const K) X K).run P w = .ok () w) (e2 : (binOp op ty X K).run P w = .ok (.bool D) w)
    (hn : ∀ a', ChG wa N ps (s + 2) D a' w → wpList P ops Q rest a' w) : wpList P ops Q (o1 :: o2 :: o3 :: rest) a w := by
  obtain ⟨d1, g1, p1⟩ := q1
  obtain ⟨d2, g2, p2⟩ := q2
  obtain ⟨d3, g3, p3⟩ := q3
  refine ch_val (ch_free g1) (ch_field p1 (ch_eval (hp _ hb)) f1) ?_
  rw [d1]
  have m1 := Kp.put (s := s) a (.pointer (some ⟨g, i, none⟩)) (Nat.le_refl _)
  have u1 : (a.put (some s) (.pointer (some ⟨g, i, none⟩))).tmps[s]? = some (.pointer (some ⟨g, i, none⟩)) := ch_put_eq (by omega)
  generalize a.put (some s) (.pointer (some ⟨g, i, none⟩)) = a2 at m1 u1 ⊢
  refine ch_val (ch_free g2) (ch_load p2 (ch_eval u1) l1) ?_
  rw [d2]
  have m2 := m1.trans (Kp.put (s := s) a2 X (show s ≤ s + 1 by omega)) (Nat.le_refl _)
  have u2 : (a2.put (some (s + 1)) X).tmps[s + 1]? = some X := ch_put_eq (by rw [m1.size]; omega)
  generalize a2.put (some (s + 1)) X = a3 at m2 u2 ⊢
  refine ch_val (ch_free g3) (ch_bin p3 (ch_eval u2) rfl e1 e2) ?_
  rw [d3]
  have m3 := m2.trans (Kp.put (s := s) a3 (.bool D) (show s ≤ s + 2 by omega)) (Nat.le_refl _)
  exact hn _ ⟨m3.size.trans hsz, m3.d.trans hd, fun q hq => (m3.at_ q.1 (hps q hq)).trans (hp q hq), ch_put_eq (by rw [m2.size]; omega), hbl⟩
end
end Go.Proofs.Ytlfkgpllleogoaa

