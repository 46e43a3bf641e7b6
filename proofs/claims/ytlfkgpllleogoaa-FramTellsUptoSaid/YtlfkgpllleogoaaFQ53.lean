/- FramTellsA -/
import Derived.Test.YtlfkgpllleogoaaFQ01
import Derived.Test.YtlfkgpllleogoaaFQ10
import Derived.Test.YtlfkgpllleogoaaFQ14
import Derived.Test.YtlfkgpllleogoaaFQ28
import Derived.Test.YtlfkgpllleogoaaFQ37
import Derived.Test.YtlfkgpllleogoaaFQ38
import Derived.Test.YtlfkgpllleogoaaFQ40
import Derived.Test.YtlfkgpllleogoaaFQ52
namespace Go.Proofs.Ytlfkgpllleogoaa
open Go.RowKit
set_option linter.unusedVariables false
inductive KF where
  | eq (u : Value)
  | row (L : List Nat)
  | any
def VF (ks : List KF) (i : Nat) (v : Value) (w : World) : Prop := match ks[i]? with
  | some (.eq u) => v = u
  | some (.row L) => ∃ A c, v = .slice A L.length c ∧ Rd w w.heap.size A L.length (bv L) ∧ L.length ≤ c
  | _ => True
theorem VF.ext (ks : List KF) (i : Nat) (v : Value) (w w' : World) (h : VF ks i v w) (he : Ext w w') : VF ks i v w' := by
  unfold VF at h ⊢
  cases hk : ks[i]? with
  | none => trivial
  | some k =>
    rw [hk] at h
    cases k with
    | eq u => exact h
    | row L => obtain ⟨A, c, h1, h2, h3⟩ := h; exact ⟨A, c, h1, h2.keep he.2 he.1, h3⟩
    | any => trivial
theorem wanted_ofF {o : Oper} {y : Nat → Option Bool} {j : Nat} {b c r : Bool} (hg : o.guard = some (j, b)) (hy : y j = some c) (hr : (c == b) = r) : Region.wanted o y = r := by
  subst hr; unfold Region.wanted; rw [hg]; simp [hy]
theorem yielded_ofF {ops : Array Oper} {tmps : Array Value} {j s : Nat} {b : Bool} (ho : (ops[j]?).bind (·.dst) = some s) (ht : tmps[s]? = some (.bool b)) : yielded ops tmps j = some b := by
  unfold yielded; rw [ho, Option.bind_some, ht]
theorem deps_ofF {md : Region.Mode} {ops : Array Oper} {deps : Nat → List Nat} (h : ((List.range ops.size).all fun i => (deps i).all fun j => Region.waitsFor md ops i j) = true) : ∀ i, i < ops.size → ∀ j ∈ deps i, Region.waitsFor md ops i j = true := by
  intro i hi j hj
  exact List.all_eq_true.1 (List.all_eq_true.1 h i (List.mem_range.2 hi)) j hj
theorem ev_tmpF {a : Act} {t : Nat} {v : Value} (h : a.eval (.tmp t) = v) : a.tmps[t]?.getD undef = v := by rw [← h]; simp [Act.eval]
def dstR10 (i : Nat) : Nat := ([65, 66, 67, 68, 69, 70, 71, 72, 73, 74, 75, 76, 77, 78, 79] : List Nat).getD i 0
def depsR10 (i : Nat) : List Nat := ([[], [0], [1], [], [3], [2, 4], [5], [6], [7, 6], [8, 6], [6], [10, 6], [11, 6], [9, 12, 6], [6, 13]] : List (List Nat)).getD i []
def FrR10 (g g1 : Nat) (g0 ax : GA) (m0 X : Mg) (A4 : Option Addr) (c4 : Nat) (L L0 : List Nat) (a : Act) : Prop := a.eval (.tmp 6) = .pointer (some ⟨g, 0, none⟩) ∧ a.eval (.tmp 13) = .pointer (some ⟨g1, 0, none⟩) ∧ a.eval (.tmp 14) = .slice A4 L.length c4
def kindsR10 (g g1 : Nat) (g0 ax : GA) (m0 X : Mg) (A4 : Option Addr) (c4 : Nat) (L L0 : List Nat) : List KF := [.eq (.agg (msgC ax X)), .row L, .eq (.string (strB L)), .eq (.slice A4 L.length c4), .eq (.string (strB L)), .eq (.bool false), .eq (.bool false), .eq (.agg (msgC g0 m0)), .row L0, .eq (.string (strB L0)), .eq (.agg (msgC g0 m0)), .row L0, .eq (.string (strB L0)), .eq (.bool false), .eq (.bool false)]
def frameR10 (g g1 : Nat) (g0 ax : GA) (m0 X : Mg) (A4 : Option Addr) (c4 : Nat) (L L0 : List Nat) (x0 x1 x2 x3 x4 x5 x7 x8 x9 x10 x11 x12 x15 x16 x17 x18 x19 x20 x21 x22 x23 x24 x25 x26 x27 x28 x29 x30 x31 x32 x33 x34 x35 x36 x37 x38 x39 x40 x41 x42 x43 x44 x45 x46 x47 x48 x49 x50 x51 x52 x53 x54 x55 x56 x57 x58 x59 x60 x61 x62 x63 x64 x80 x81 x82 x83 x84 x85 x86 x87 x88 x89 x90 x91 x92 x93 x94 x95 x96 x97 x98 x99 x100 x101 x102 x103 x104 x105 x106 x107 x108 x109 x110 x111 x112 x113 x114 x115 x116 x117 x118 : Value) (U : Nat → Value) : Act := { tmps := List.toArray (x0 :: x1 :: x2 :: x3 :: x4 :: x5 :: .pointer (some ⟨g, 0, none⟩) :: x7 :: x8 :: x9 :: x10 :: x11 :: x12 :: .pointer (some ⟨g1, 0, none⟩) :: .slice A4 L.length c4 :: x15 :: x16 :: x17 :: x18 :: x19 :: x20 :: x21 :: x22 :: x23 :: x24 :: x25 :: x26 :: x27 :: x28 :: x29 :: x30 :: x31 :: x32 :: x33 :: x34 :: x35 :: x36 :: x37 :: x38 :: x39 :: x40 :: x41 :: x42 :: x43 :: x44 :: x45 :: x46 :: x47 :: x48 :: x49 :: x50 :: x51 :: x52 :: x53 :: x54 :: x55 :: x56 :: x57 :: x58 :: x59 :: x60 :: x61 :: x62 :: x63 :: x64 :: U 65 :: U 66 :: U 67 :: U 68 :: U 69 :: U 70 :: U 71 :: U 72 :: U 73 :: U 74 :: U 75 :: U 76 :: U 77 :: U 78 :: U 79 :: x80 :: x81 :: x82 :: x83 :: x84 :: x85 :: x86 :: x87 :: x88 :: x89 :: x90 :: x91 :: x92 :: x93 :: x94 :: x95 :: x96 :: x97 :: x98 :: x99 :: x100 :: x101 :: x102 :: x103 :: x104 :: x105 :: x106 :: x107 :: x108 :: x109 :: x110 :: x111 :: x112 :: x113 :: x114 :: x115 :: x116 :: x117 :: x118 :: []), defers := [] }
theorem wpList_load_rowW {P : Program} {ops : Array Oper} {rest : List Oper} {o : Oper} {a : Act} {w : World} {Q : Exit → Act → World → Prop} (hgd : Region.wanted o (yielded ops a.tmps) = true) (ty : TypeId) (x : Operand) (ho : o.op = .load ty x)
    (g : Nat) (hx : a.eval x = .pointer (some ⟨g, 0, none⟩)) (t : TypeId) (cs : Array Value) (fr : Nat × Nat) (d : TypeDesc) (hg : w.heap[g]? = some (.cells cs t fr))
    (hu : P.underlying ty = some d) (hd : (match d with | .struct _ | .array _ _ => true | _ => false) = true) (hi : (P.info? ty).map (·.size) = some cs.size)
    (h : wpList P ops Q rest (a.put o.dst (.agg cs)) w) : wpList P ops Q (o :: rest) a w :=
  wpList_step fun K hK => by rw [if_pos hgd]; exact wp_load_row ty x ho g hx t cs fr d hg hu hd hi (hK _ _ h)
theorem fr_wideD {l : List Nat} (hb : ∀ x ∈ l, x < 256) : ((Fr.opn l).getD Mg.zero).Wide := by
  cases h : Fr.opn l with
  | none => exact Mg.Wide.zero
  | some m =>
    unfold Fr.opn at h
    split at h
    · cases h
    · split at h
      · exact Mg.dec_wide (fun x hx => hb x (List.mem_of_mem_drop hx)) h
      · cases h
set_option maxHeartbeats 8000000 in
set_option maxRecDepth 100000 in
theorem framTells_raw (g0 : GA) (m0 : Mg) (n m : Int) (A : Option Addr) (cap : Nat) (l : List Nat) (at_ : Int) (y : Nat) (hy : y < 256) (w : World) (hm : IsMsg w g0 m0) (he : m0.ent.c.key.length ≤ 1048576 ∧ m0.ent.c.val.length ≤ 1048576 ∧ m0.ent.c.old.length ≤ 1048576) (hl : Rd w w.heap.size A l.length (bv l)) (hlc : l.length ≤ cap ∧ cap ≤ maxLen) (hlt : ∀ x ∈ l, x < 256) :
    Calls Try.prog 6 #[.agg #[.int .i64 m0.kind, .int .i64 m0.frm, .int .i64 m0.dst, .int .i64 m0.view, .int .i64 m0.inst, .int .i64 m0.len, .bool m0.has, .int .i64 m0.mem, .int .i64 m0.src, .int .i64 m0.pos, .int .i64 m0.tot, .slice g0.Ad m0.data.length g0.cd, .int .i64 m0.hop, .int .i64 m0.seq, .slice g0.Ah m0.hav.length g0.ch, .slice g0.An m0.nee.length g0.cn, .int .i64 m0.idx, .int .i64 m0.ent.s, .int .i64 m0.ent.q, .int .i64 m0.ent.c.kind, .int .i64 m0.ent.c.who, .slice g0.c.Ak m0.ent.c.key.length g0.c.ck, .slice g0.c.Av m0.ent.c.val.length g0.c.cv, .slice g0.c.Ao m0.ent.c.old.length g0.c.co], .int .i64 n, .int .i64 m, .slice A l.length cap, .int .i64 at_, .int .u8 (y : Int)] w fun e w' => e = .returned (.bool true) ∧ Below w.heap.size w w' := by
  have HM := Lib.hid hm
  have HE := Lib.hid he
  have HL := Lib.hid hl
  have HLC := Lib.hid hlc
  have HLT := Lib.hid hlt
  have HY := Lib.hid hy
  clear hm he hl hlt hlc hy
  go_enter Try.func6, Try.ntmps6
  go_upto_region 1 with fail
  have b1 : Below w.heap.size w (w.alloc (.cells #[.int .i64 m0.kind, .int .i64 m0.frm, .int .i64 m0.dst, .int .i64 m0.view, .int .i64 m0.inst, .int .i64 m0.len, .bool m0.has, .int .i64 m0.mem, .int .i64 m0.src, .int .i64 m0.pos, .int .i64 m0.tot, .slice g0.Ad m0.data.length g0.cd, .int .i64 m0.hop, .int .i64 m0.seq, .slice g0.Ah m0.hav.length g0.ch, .slice g0.An m0.nee.length g0.cn, .int .i64 m0.idx, .int .i64 m0.ent.s, .int .i64 m0.ent.q, .int .i64 m0.ent.c.kind, .int .i64 m0.ent.c.who, .slice g0.c.Ak m0.ent.c.key.length g0.c.ck, .slice g0.c.Av m0.ent.c.val.length g0.c.cv, .slice g0.c.Ao m0.ent.c.old.length g0.c.co] 29)) := (Below.refl _ _).alloc (Nat.le_refl _) _
  have k1 : Blk (w.alloc (.cells #[.int .i64 m0.kind, .int .i64 m0.frm, .int .i64 m0.dst, .int .i64 m0.view, .int .i64 m0.inst, .int .i64 m0.len, .bool m0.has, .int .i64 m0.mem, .int .i64 m0.src, .int .i64 m0.pos, .int .i64 m0.tot, .slice g0.Ad m0.data.length g0.cd, .int .i64 m0.hop, .int .i64 m0.seq, .slice g0.Ah m0.hav.length g0.ch, .slice g0.An m0.nee.length g0.cn, .int .i64 m0.idx, .int .i64 m0.ent.s, .int .i64 m0.ent.q, .int .i64 m0.ent.c.kind, .int .i64 m0.ent.c.who, .slice g0.c.Ak m0.ent.c.key.length g0.c.ck, .slice g0.c.Av m0.ent.c.val.length g0.c.cv, .slice g0.c.Ao m0.ent.c.old.length g0.c.co] 29)) w.heap.size 29 #[.int .i64 m0.kind, .int .i64 m0.frm, .int .i64 m0.dst, .int .i64 m0.view, .int .i64 m0.inst, .int .i64 m0.len, .bool m0.has, .int .i64 m0.mem, .int .i64 m0.src, .int .i64 m0.pos, .int .i64 m0.tot, .slice g0.Ad m0.data.length g0.cd, .int .i64 m0.hop, .int .i64 m0.seq, .slice g0.Ah m0.hav.length g0.ch, .slice g0.An m0.nee.length g0.cn, .int .i64 m0.idx, .int .i64 m0.ent.s, .int .i64 m0.ent.q, .int .i64 m0.ent.c.kind, .int .i64 m0.ent.c.who, .slice g0.c.Ak m0.ent.c.key.length g0.c.ck, .slice g0.c.Av m0.ent.c.val.length g0.c.cv, .slice g0.c.Ao m0.ent.c.old.length g0.c.co] := Blk.new w 29 #[.int .i64 m0.kind, .int .i64 m0.frm, .int .i64 m0.dst, .int .i64 m0.view, .int .i64 m0.inst, .int .i64 m0.len, .bool m0.has, .int .i64 m0.mem, .int .i64 m0.src, .int .i64 m0.pos, .int .i64 m0.tot, .slice g0.Ad m0.data.length g0.cd, .int .i64 m0.hop, .int .i64 m0.seq, .slice g0.Ah m0.hav.length g0.ch, .slice g0.An m0.nee.length g0.cn, .int .i64 m0.idx, .int .i64 m0.ent.s, .int .i64 m0.ent.q, .int .i64 m0.ent.c.kind, .int .i64 m0.ent.c.who, .slice g0.c.Ak m0.ent.c.key.length g0.c.ck, .slice g0.c.Av m0.ent.c.val.length g0.c.cv, .slice g0.c.Ao m0.ent.c.old.length g0.c.co]
  obtain ⟨g, hg⟩ : ∃ g, w.heap.size = g := ⟨_, rfl⟩
  generalize w.alloc (.cells #[.int .i64 m0.kind, .int .i64 m0.frm, .int .i64 m0.dst, .int .i64 m0.view, .int .i64 m0.inst, .int .i64 m0.len, .bool m0.has, .int .i64 m0.mem, .int .i64 m0.src, .int .i64 m0.pos, .int .i64 m0.tot, .slice g0.Ad m0.data.length g0.cd, .int .i64 m0.hop, .int .i64 m0.seq, .slice g0.Ah m0.hav.length g0.ch, .slice g0.An m0.nee.length g0.cn, .int .i64 m0.idx, .int .i64 m0.ent.s, .int .i64 m0.ent.q, .int .i64 m0.ent.c.kind, .int .i64 m0.ent.c.who, .slice g0.c.Ak m0.ent.c.key.length g0.c.ck, .slice g0.c.Av m0.ent.c.val.length g0.c.cv, .slice g0.c.Ao m0.ent.c.old.length g0.c.co] 29) = w1 at b1 k1 ⊢
  have HB1 := Lib.hid b1
  have HM1 := Lib.hid (HM.out.rd.below' b1)
  have HL1 := Lib.hid (HL.out.below b1).fit
  rw [hg] at k1 ⊢
  have HK1 := Lib.hid k1
  clear hg b1
  have y11 : w1.cell? ⟨g, 11, none⟩ = some (.slice g0.Ad m0.data.length g0.cd) := k1.cell 11
  have y14 : w1.cell? ⟨g, 14, none⟩ = some (.slice g0.Ah m0.hav.length g0.ch) := k1.cell 14
  have y15 : w1.cell? ⟨g, 15, none⟩ = some (.slice g0.An m0.nee.length g0.cn) := k1.cell 15
  clear k1
  obtain ⟨D1, d1⟩ : ∃ D : Bool, decide ((200 : Int) < (l.length : Int)) = D := ⟨_, rfl⟩
  obtain ⟨D2, d2⟩ : ∃ D : Bool, decide ((100 : Int) < (m0.data.length : Int)) = D := ⟨_, rfl⟩
  obtain ⟨D3, d3⟩ : ∃ D : Bool, decide ((20 : Int) < (m0.hav.length : Int)) = D := ⟨_, rfl⟩
  obtain ⟨D4, d4⟩ : ∃ D : Bool, decide ((20 : Int) < (m0.nee.length : Int)) = D := ⟨_, rfl⟩
  cases D1 with
  | true =>
    go_wp2_with (first
      | (go_at_call 23; refine (framAwake _).mono ?_; rintro e w6 ⟨rfl, hb6⟩)
      | fail)
    go_ret
    exact ⟨rfl, HB1.out.trans (hb6.mono HB1.out.size)⟩
  | false =>
  cases D2 with
  | true =>
    go_wp2_with (first
      | (go_at_call 23; refine (framAwake _).mono ?_; rintro e w6 ⟨rfl, hb6⟩)
      | fail)
    go_ret
    exact ⟨rfl, HB1.out.trans (hb6.mono HB1.out.size)⟩
  | false =>
  cases D3 with
  | true =>
    go_wp2_with (first
      | (go_at_call 23; refine (framAwake _).mono ?_; rintro e w6 ⟨rfl, hb6⟩)
      | fail)
    go_ret
    exact ⟨rfl, HB1.out.trans (hb6.mono HB1.out.size)⟩
  | false =>
  cases D4 with
  | true =>
    go_wp2_with (first
      | (go_at_call 23; refine (framAwake _).mono ?_; rintro e w6 ⟨rfl, hb6⟩)
      | fail)
    go_ret
    exact ⟨rfl, HB1.out.trans (hb6.mono HB1.out.size)⟩
  | false =>
  have HWD0 : Hid m0.Wide := Lib.hid ⟨⟨by have := of_decide_eq_false d2; omega, HM.out.d⟩, by have := of_decide_eq_false d3; omega, by have := of_decide_eq_false d4; omega, ⟨⟨by have := HE.out.1; omega, HM.out.c.key⟩, ⟨by have := HE.out.2.1; omega, HM.out.c.val⟩, ⟨by have := HE.out.2.2; omega, HM.out.c.old⟩⟩⟩
  have HL200 : Hid (l.length ≤ 200) := Lib.hid (by have := of_decide_eq_false d1; omega)
  obtain ⟨X, L, hF⟩ := frOf n m
  obtain ⟨L0, hL0⟩ : ∃ L0, Fr.wrap m0 = L0 := ⟨_, rfl⟩
  have F := Lib.hid hF
  have C1 := Lib.hid hF.msg
  have HL0 := Lib.hid hL0
  clear hF hL0 HE
  go_upto_region 3 with fail
  clear y11 y14 y15 d1 d2 d3 d4
  go_upto_region 4 with (first
    | (go_at_call 14; refine (C1.out _).mono ?_; rintro e1 w2 ⟨ax, rfl, hrx, hb2⟩
       have HX := Lib.hid hrx
       have HB2 := Lib.hid (HB1.out.trans (hb2.mono HB1.out.size))
       have HK1 := Lib.hid (HK1.out.below hb2)
       have HM1 := Lib.hid (HM1.out.below' hb2)
       have HL1 := Lib.hid (HL1.out.below hb2).fit
       have Z5 := Lib.hid (Blk.new w2 29 #[.int .i64 0, .int .i64 0, .int .i64 0, .int .i64 0, .int .i64 0, .int .i64 0, .bool false, .int .i64 0, .int .i64 0, .int .i64 0, .int .i64 0, .slice none 0 0, .int .i64 0, .int .i64 0, .slice none 0 0, .slice none 0 0, .int .i64 0, .int .i64 0, .int .i64 0, .int .i64 0, .int .i64 0, .slice none 0 0, .slice none 0 0, .slice none 0 0])
       clear hrx hb2 C1)
    | (refine wpList_store_row rfl 29 (.tmp 13) (.tmp 47) rfl w2.heap.size #[.int .i64 X.kind, .int .i64 X.frm, .int .i64 X.dst, .int .i64 X.view, .int .i64 X.inst, .int .i64 X.len, .bool X.has, .int .i64 X.mem, .int .i64 X.src, .int .i64 X.pos, .int .i64 X.tot, .slice ax.Ad X.data.length ax.cd, .int .i64 X.hop, .int .i64 X.seq, .slice ax.Ah X.hav.length ax.ch, .slice ax.An X.nee.length ax.cn, .int .i64 X.idx, .int .i64 X.ent.s, .int .i64 X.ent.q, .int .i64 X.ent.c.kind, .int .i64 X.ent.c.who, .slice ax.c.Ak X.ent.c.key.length ax.c.ck, .slice ax.c.Av X.ent.c.val.length ax.c.cv, .slice ax.c.Ao X.ent.c.old.length ax.c.co] rfl rfl 29 #[.int .i64 0, .int .i64 0, .int .i64 0, .int .i64 0, .int .i64 0, .int .i64 0, .bool false, .int .i64 0, .int .i64 0, .int .i64 0, .int .i64 0, .slice none 0 0, .int .i64 0, .int .i64 0, .slice none 0 0, .slice none 0 0, .int .i64 0, .int .i64 0, .int .i64 0, .int .i64 0, .int .i64 0, .slice none 0 0, .slice none 0 0, .slice none 0 0] Z5.out (by kernel_rfl) rfl (by kernel_rfl) ?_)
    | fail)
  have b23 : Below w2.heap.size w2 ((w2.alloc (.cells #[.int .i64 0, .int .i64 0, .int .i64 0, .int .i64 0, .int .i64 0, .int .i64 0, .bool false, .int .i64 0, .int .i64 0, .int .i64 0, .int .i64 0, .slice none 0 0, .int .i64 0, .int .i64 0, .slice none 0 0, .slice none 0 0, .int .i64 0, .int .i64 0, .int .i64 0, .int .i64 0, .int .i64 0, .slice none 0 0, .slice none 0 0, .slice none 0 0] 29)).setRow w2.heap.size #[.int .i64 X.kind, .int .i64 X.frm, .int .i64 X.dst, .int .i64 X.view, .int .i64 X.inst, .int .i64 X.len, .bool X.has, .int .i64 X.mem, .int .i64 X.src, .int .i64 X.pos, .int .i64 X.tot, .slice ax.Ad X.data.length ax.cd, .int .i64 X.hop, .int .i64 X.seq, .slice ax.Ah X.hav.length ax.ch, .slice ax.An X.nee.length ax.cn, .int .i64 X.idx, .int .i64 X.ent.s, .int .i64 X.ent.q, .int .i64 X.ent.c.kind, .int .i64 X.ent.c.who, .slice ax.c.Ak X.ent.c.key.length ax.c.ck, .slice ax.c.Av X.ent.c.val.length ax.c.cv, .slice ax.c.Ao X.ent.c.old.length ax.c.co]) := below_setRow ((Below.refl _ _).alloc (Nat.le_refl _) _) (Nat.le_refl _) _
  have k5 : Blk ((w2.alloc (.cells #[.int .i64 0, .int .i64 0, .int .i64 0, .int .i64 0, .int .i64 0, .int .i64 0, .bool false, .int .i64 0, .int .i64 0, .int .i64 0, .int .i64 0, .slice none 0 0, .int .i64 0, .int .i64 0, .slice none 0 0, .slice none 0 0, .int .i64 0, .int .i64 0, .int .i64 0, .int .i64 0, .int .i64 0, .slice none 0 0, .slice none 0 0, .slice none 0 0] 29)).setRow w2.heap.size #[.int .i64 X.kind, .int .i64 X.frm, .int .i64 X.dst, .int .i64 X.view, .int .i64 X.inst, .int .i64 X.len, .bool X.has, .int .i64 X.mem, .int .i64 X.src, .int .i64 X.pos, .int .i64 X.tot, .slice ax.Ad X.data.length ax.cd, .int .i64 X.hop, .int .i64 X.seq, .slice ax.Ah X.hav.length ax.ch, .slice ax.An X.nee.length ax.cn, .int .i64 X.idx, .int .i64 X.ent.s, .int .i64 X.ent.q, .int .i64 X.ent.c.kind, .int .i64 X.ent.c.who, .slice ax.c.Ak X.ent.c.key.length ax.c.ck, .slice ax.c.Av X.ent.c.val.length ax.c.cv, .slice ax.c.Ao X.ent.c.old.length ax.c.co]) w2.heap.size 29 #[.int .i64 X.kind, .int .i64 X.frm, .int .i64 X.dst, .int .i64 X.view, .int .i64 X.inst, .int .i64 X.len, .bool X.has, .int .i64 X.mem, .int .i64 X.src, .int .i64 X.pos, .int .i64 X.tot, .slice ax.Ad X.data.length ax.cd, .int .i64 X.hop, .int .i64 X.seq, .slice ax.Ah X.hav.length ax.ch, .slice ax.An X.nee.length ax.cn, .int .i64 X.idx, .int .i64 X.ent.s, .int .i64 X.ent.q, .int .i64 X.ent.c.kind, .int .i64 X.ent.c.who, .slice ax.c.Ak X.ent.c.key.length ax.c.ck, .slice ax.c.Av X.ent.c.val.length ax.c.cv, .slice ax.c.Ao X.ent.c.old.length ax.c.co] := Z5.out.row _
  generalize (w2.alloc (.cells #[.int .i64 0, .int .i64 0, .int .i64 0, .int .i64 0, .int .i64 0, .int .i64 0, .bool false, .int .i64 0, .int .i64 0, .int .i64 0, .int .i64 0, .slice none 0 0, .int .i64 0, .int .i64 0, .slice none 0 0, .slice none 0 0, .int .i64 0, .int .i64 0, .int .i64 0, .int .i64 0, .int .i64 0, .slice none 0 0, .slice none 0 0, .slice none 0 0] 29)).setRow w2.heap.size #[.int .i64 X.kind, .int .i64 X.frm, .int .i64 X.dst, .int .i64 X.view, .int .i64 X.inst, .int .i64 X.len, .bool X.has, .int .i64 X.mem, .int .i64 X.src, .int .i64 X.pos, .int .i64 X.tot, .slice ax.Ad X.data.length ax.cd, .int .i64 X.hop, .int .i64 X.seq, .slice ax.Ah X.hav.length ax.ch, .slice ax.An X.nee.length ax.cn, .int .i64 X.idx, .int .i64 X.ent.s, .int .i64 X.ent.q, .int .i64 X.ent.c.kind, .int .i64 X.ent.c.who, .slice ax.c.Ak X.ent.c.key.length ax.c.ck, .slice ax.c.Av X.ent.c.val.length ax.c.cv, .slice ax.c.Ao X.ent.c.old.length ax.c.co] = w3 at b23 k5 ⊢
  obtain ⟨g1, hg1⟩ : ∃ h5, w2.heap.size = h5 := ⟨_, rfl⟩
  have HX := Lib.hid (HX.out.below' b23)
  have HB := Lib.hid (HB2.out.trans (b23.mono HB2.out.size))
  have HK1 := Lib.hid (HK1.out.below b23)
  have HM1 := Lib.hid (HM1.out.below' b23)
  have HL1 := Lib.hid (HL1.out.below b23).fit
  rw [hg1] at k5 ⊢
  have HK2 : Hid (Blk w3 g1 29 #[.int .i64 X.kind, .int .i64 X.frm, .int .i64 X.dst, .int .i64 X.view, .int .i64 X.inst, .int .i64 X.len, .bool X.has, .int .i64 X.mem, .int .i64 X.src, .int .i64 X.pos, .int .i64 X.tot, .slice ax.Ad X.data.length ax.cd, .int .i64 X.hop, .int .i64 X.seq, .slice ax.Ah X.hav.length ax.ch, .slice ax.An X.nee.length ax.cn, .int .i64 X.idx, .int .i64 X.ent.s, .int .i64 X.ent.q, .int .i64 X.ent.c.kind, .int .i64 X.ent.c.who, .slice ax.c.Ak X.ent.c.key.length ax.c.ck, .slice ax.c.Av X.ent.c.val.length ax.c.cv, .slice ax.c.Ao X.ent.c.old.length ax.c.co]) := Lib.hid k5
  clear b23 k5 hg1 HB1 HB2 Z5
  have CW0 : Hid (Calls Try.prog 24 #[.agg #[.int .i64 X.kind, .int .i64 X.frm, .int .i64 X.dst, .int .i64 X.view, .int .i64 X.inst, .int .i64 X.len, .bool X.has, .int .i64 X.mem, .int .i64 X.src, .int .i64 X.pos, .int .i64 X.tot, .slice ax.Ad X.data.length ax.cd, .int .i64 X.hop, .int .i64 X.seq, .slice ax.Ah X.hav.length ax.ch, .slice ax.An X.nee.length ax.cn, .int .i64 X.idx, .int .i64 X.ent.s, .int .i64 X.ent.q, .int .i64 X.ent.c.kind, .int .i64 X.ent.c.who, .slice ax.c.Ak X.ent.c.key.length ax.c.ck, .slice ax.c.Av X.ent.c.val.length ax.c.cv, .slice ax.c.Ao X.ent.c.old.length ax.c.co]] w3 (GotIn w3 w3 L)) := Lib.hid (refWrap (a := ax) (m := X) F.out.wrap F.out.wide HX.out (Below.refl _ _))
  dsimp only [Act.put]
  go_upto_region 5 with (first
    | (refine wpList_load_row rfl 29 (.tmp 13) rfl g1 rfl 29 #[.int .i64 X.kind, .int .i64 X.frm, .int .i64 X.dst, .int .i64 X.view, .int .i64 X.inst, .int .i64 X.len, .bool X.has, .int .i64 X.mem, .int .i64 X.src, .int .i64 X.pos, .int .i64 X.tot, .slice ax.Ad X.data.length ax.cd, .int .i64 X.hop, .int .i64 X.seq, .slice ax.Ah X.hav.length ax.ch, .slice ax.An X.nee.length ax.cn, .int .i64 X.idx, .int .i64 X.ent.s, .int .i64 X.ent.q, .int .i64 X.ent.c.kind, .int .i64 X.ent.c.who, .slice ax.c.Ak X.ent.c.key.length ax.c.ck, .slice ax.c.Av X.ent.c.val.length ax.c.cv, .slice ax.c.Ao X.ent.c.old.length ax.c.co] (0, 0) _ HK2.out Try.underlying29 rfl (by kernel_rfl) ?_)
    | (go_at_call 24; refine CW0.out.mono ?_; rintro e w4 ⟨A4, c4, rfl, ho4, hB4, hb4⟩)
    | fail)
  have HO4 := Lib.hid (Rd.own_ ho4)
  have HCAP4 := Lib.hid (own_cap ho4)
  have HX := Lib.hid (HX.out.below' hb4)
  have HB := Lib.hid (HB.out.trans (hb4.mono HB.out.size))
  have HK1 := Lib.hid (HK1.out.below hb4)
  have HK2 := Lib.hid (HK2.out.below hb4)
  have HM1 := Lib.hid (HM1.out.below' hb4)
  have HL1 := Lib.hid (HL1.out.below hb4).fit
  clear ho4 hB4 hb4 CW0
  have hlen9 : L.length ≤ 90000 := by have := F.out.len; omega
  have hpos : 0 < L.length := by have := F.out.len; omega
  go_upto_region 6 with (first
    | (at_builtin
       refine wpList_append_bytes (W := w4) byteT (.tmp 50) (.tmp 51) rfl (by rfl) rfl (own_empty (Below.refl _ _) 5) rfl (HO4.out.alloc (Nat.le_refl _) _) (by omega) ((Below.refl _ _).alloc (Nat.le_refl _) _) ?_
       intro A6 c6 w5 ho6 hr6 hB6
       clear hr6
       rw [Nat.zero_add, List.nil_append] at ho6
       rw [Nat.zero_add]
       obtain ⟨gb, rfl, hgb, hgb2⟩ := own_addr ho6 hpos
       have HO6 := Lib.hid ho6
       have HB6 := Lib.hid hB6
       clear ho6 hB6)
    | fail)
  obtain ⟨k, hk, hkl⟩ : ∃ k : Nat, (bits .and .i64 at_ 65535).tmod (L.length : Int) = (k : Int) ∧ k < L.length := by
    rw [and_ffff]
    have h1 := Int.emod_nonneg at_ (show (65536 : Int) ≠ 0 by omega)
    rw [Int.tmod_eq_emod_of_nonneg h1]
    have h2 := Int.emod_nonneg (at_ % 65536) (show (L.length : Int) ≠ 0 by omega)
    have h3 := Int.emod_lt_of_pos (at_ % 65536) (show (0 : Int) < (L.length : Int) by omega)
    exact ⟨((at_ % 65536) % (L.length : Int)).toNat, by omega, by omega⟩
  have hl0 : ¬ (L.length : Int) = 0 := by omega
  have hl0b : ((L.length : Int) == 0) = false := by simpa using hl0
  have hki : (k : Int) < (L.length : Int) := by omega
  have hk0 : (0 : Int) ≤ (k : Int) := by omega
  have hlp : (0 : Int) < (L.length : Int) := by omega
  have hcb := own_byte HO6.out hkl
  have hfb := own_frozenS HO6.out k
  have hset := own_set HO6.out k y
  go_upto_region 10 with fail
  have hbs : Below w4.heap.size w4 (w5.setCell ⟨gb, k, none⟩ (.int .u8 (y : Int))) := HB6.out.setCell (p := ⟨gb, k, none⟩) hgb _
  have HR4 := Lib.hid ((HO4.out.below hbs).fit)
  have HU := Lib.hid hset
  have HB := Lib.hid (HB.out.trans (hbs.mono HB.out.size))
  have HX := Lib.hid (HX.out.below' hbs)
  have HK1 := Lib.hid (HK1.out.below hbs)
  have HK2 := Lib.hid (HK2.out.below hbs)
  have HM1 := Lib.hid (HM1.out.below' hbs)
  have HL1 := Lib.hid (HL1.out.below hbs).fit
  clear hcb hfb hset HO6 HB6 HO4
  generalize w5.setCell ⟨gb, k, none⟩ (.int .u8 (y : Int)) = w6 at hbs HR4 HU HB HX HK1 HK2 HM1 HL1 ⊢
  clear hbs
  have CW1 : Hid (∀ wx, Below w6.heap.size w6 wx → Calls Try.prog 21 #[msgV ax X] wx (GotIn wx wx L)) := Lib.hid (fun wx hb => frwrap_is (a := ax) (m := X) F.out.wrap F.out.wide (HX.out.below hb) (Below.refl _ _))
  have CW2 : Hid (∀ wx, Below w6.heap.size w6 wx → Calls Try.prog 21 #[msgV g0 m0] wx (GotIn wx wx L0)) := Lib.hid (fun wx hb => frwrap_is (a := g0) (m := m0) HL0.out HWD0.out (HM1.out.below hb) (Below.refl _ _))
  have CW3 : Hid (∀ wx, Below w6.heap.size w6 wx → Calls Try.prog 24 #[msgV g0 m0] wx (GotIn wx wx L0)) := Lib.hid (fun wx hb => refWrap (a := g0) (m := m0) HL0.out HWD0.out (HM1.out.below hb) (Below.refl _ _))
  have HQ1 : Hid ((strB L == strB L) = true) := Lib.hid (strB_self _)
  have HQ2 : Hid (((strB L).toList == (strB L).toList) = true) := Lib.hid (by simp)
  have HQ3 : Hid ((strB L0 == strB L0) = true) := Lib.hid (strB_self _)
  have HQ4 : Hid (((strB L0).toList == (strB L0).toList) = true) := Lib.hid (by simp)
  go_cut [79] from 65 to 79 (fun s79 wx => s79 = .bool false ∧ Hid (Below w6.heap.size w6 wx))
  case first =>
    refine region_invG (U0 := fun _ => undef) (frameR10 g g1 g0 ax m0 X A4 c4 L L0 _ _ _ _ _ _ _ _ _ _ _ _ _ _ _ _ _ _ _ _ _ _ _ _ _ _ _ _ _ _ _ _ _ _ _ _ _ _ _ _ _ _ _ _ _ _ _ _ _ _ _ _ _ _ _ _ _ _ _ _ _ _ _ _ _ _ _ _ _ _ _ _ _ _ _ _ _ _ _ _ _ _ _ _ _ _ _ _ _ _ _ _ _ _ _ _ _ _ _ _ _) dstR10 depsR10 (fun _ => true) (VF (kindsR10 g g1 g0 ax m0 X A4 c4 L L0)) (FrR10 g g1 g0 ax m0 X A4 c4 L L0) ?hm ?hb ?inj ?dst ?deps ?want ?put ?ev ?fr (VF.ext _) (Below.refl _ _) ?hok ?done
    case hok =>
      refine all_ops (AllFrom.cons ?s0 (AllFrom.cons ?s1 (AllFrom.cons ?s2 (AllFrom.cons ?s3 (AllFrom.cons ?s4 (AllFrom.cons ?s5 (AllFrom.cons ?s6 (AllFrom.cons ?s7 (AllFrom.cons ?s8 (AllFrom.cons ?s9 (AllFrom.cons ?s10 (AllFrom.cons ?s11 (AllFrom.cons ?s12 (AllFrom.cons ?s13 (AllFrom.cons ?s14 AllFrom.nil)))))))))))))))
      case s0 =>
        intro a w1 hF hB hdep K hK
        rw [if_pos rfl]
        refine wp_load_row 29 (.tmp 13) rfl g1 hF.2.1 29 (msgC ax X) (0, 0) _ (HK2.out.below hB) Try.underlying29 rfl (by kernel_rfl) ?_
        exact hK.out _ _ (Ext.refl _) hB rfl
      case s1 =>
        intro a w1 hF hB hdep K hK
        rw [if_pos rfl]
        have e0 : a.tmps[65]?.getD undef = msgV ax X := ev_tmpF (show a.eval (.tmp 65) = msgV ax X from hdep 0 (by decide))
        go_simp
        go_at_call 21
        refine (CW1.out _ hB).mono ?_
        rintro e w2 ⟨A9, c9, rfl, ho, hB9, hb⟩
        go_simp
        exact hK.out _ _ (Ext.of_below hb) (hB.trans (hb.mono hB.size)) ⟨A9, c9, rfl, Rd.own_ ho, (own_cap ho).1⟩
      case s2 =>
        intro a w1 hF hB hdep K hK
        rw [if_pos rfl]
        obtain ⟨A9, c9, e1, hr1, hc1⟩ : ∃ A9 c9, a.eval (.tmp 66) = .slice A9 L.length c9 ∧ Rd w1 w1.heap.size A9 L.length (bv L) ∧ L.length ≤ c9 := hdep 1 (by decide)
        have e1 := ev_tmpF e1
        have q := str_of (c := c9) hr1
        go_simp
        exact hK.out _ _ (Ext.refl _) hB rfl
      case s3 =>
        intro a w1 hF hB hdep K hK
        rw [if_pos rfl]
        have f14 : a.tmps[14]?.getD undef = .slice A4 L.length c4 := ev_tmpF hF.2.2
        go_simp
        exact hK.out _ _ (Ext.refl _) hB rfl
      case s4 =>
        intro a w1 hF hB hdep K hK
        rw [if_pos rfl]
        have e3 : a.tmps[68]?.getD undef = .slice A4 L.length c4 := ev_tmpF (show a.eval (.tmp 68) = .slice A4 L.length c4 from hdep 3 (by decide))
        have q := str_of (c := c4) (HR4.out.below hB)
        go_simp
        exact hK.out _ _ (Ext.refl _) hB rfl
      case s5 =>
        intro a w1 hF hB hdep K hK
        rw [if_pos rfl]
        have e2 : a.tmps[67]?.getD undef = .string (strB L) := ev_tmpF (show a.eval (.tmp 67) = .string (strB L) from hdep 2 (by decide))
        have e4 : a.tmps[69]?.getD undef = .string (strB L) := ev_tmpF (show a.eval (.tmp 69) = .string (strB L) from hdep 4 (by decide))
        have q1 := HQ1.out
        have q2 := HQ2.out
        go_simp
        exact hK.out _ _ (Ext.refl _) hB rfl
      case s6 =>
        intro a w1 hF hB hdep K hK
        rw [if_pos rfl]
        have e5 : a.tmps[70]?.getD undef = .bool false := ev_tmpF (show a.eval (.tmp 70) = .bool false from hdep 5 (by decide))
        go_simp
        exact hK.out _ _ (Ext.refl _) hB rfl
      case s7 =>
        intro a w1 hF hB hdep K hK
        rw [if_pos rfl]
        refine wp_load_row 29 (.tmp 6) rfl g hF.1 29 (msgC g0 m0) (0, 0) _ (HK1.out.below hB) Try.underlying29 rfl (by kernel_rfl) ?_
        exact hK.out _ _ (Ext.refl _) hB rfl
      case s8 =>
        intro a w1 hF hB hdep K hK
        rw [if_pos rfl]
        have e7 : a.tmps[72]?.getD undef = msgV g0 m0 := ev_tmpF (show a.eval (.tmp 72) = msgV g0 m0 from hdep 7 (by decide))
        go_simp
        go_at_call 21
        refine (CW2.out _ hB).mono ?_
        rintro e w2 ⟨A9, c9, rfl, ho, hB9, hb⟩
        go_simp
        exact hK.out _ _ (Ext.of_below hb) (hB.trans (hb.mono hB.size)) ⟨A9, c9, rfl, Rd.own_ ho, (own_cap ho).1⟩
      case s9 =>
        intro a w1 hF hB hdep K hK
        rw [if_pos rfl]
        obtain ⟨A9, c9, e8, hr8, hc8⟩ : ∃ A9 c9, a.eval (.tmp 73) = .slice A9 L0.length c9 ∧ Rd w1 w1.heap.size A9 L0.length (bv L0) ∧ L0.length ≤ c9 := hdep 8 (by decide)
        have e8 := ev_tmpF e8
        have q := str_of (c := c9) hr8
        go_simp
        exact hK.out _ _ (Ext.refl _) hB rfl
      case s10 =>
        intro a w1 hF hB hdep K hK
        rw [if_pos rfl]
        refine wp_load_row 29 (.tmp 6) rfl g hF.1 29 (msgC g0 m0) (0, 0) _ (HK1.out.below hB) Try.underlying29 rfl (by kernel_rfl) ?_
        exact hK.out _ _ (Ext.refl _) hB rfl
      case s11 =>
        intro a w1 hF hB hdep K hK
        rw [if_pos rfl]
        have e10 : a.tmps[75]?.getD undef = msgV g0 m0 := ev_tmpF (show a.eval (.tmp 75) = msgV g0 m0 from hdep 10 (by decide))
        go_simp
        go_at_call 24
        refine (CW3.out _ hB).mono ?_
        rintro e w2 ⟨A9, c9, rfl, ho, hB9, hb⟩
        go_simp
        exact hK.out _ _ (Ext.of_below hb) (hB.trans (hb.mono hB.size)) ⟨A9, c9, rfl, Rd.own_ ho, (own_cap ho).1⟩
      case s12 =>
        intro a w1 hF hB hdep K hK
        rw [if_pos rfl]
        obtain ⟨A9, c9, e11, hr11, hc11⟩ : ∃ A9 c9, a.eval (.tmp 76) = .slice A9 L0.length c9 ∧ Rd w1 w1.heap.size A9 L0.length (bv L0) ∧ L0.length ≤ c9 := hdep 11 (by decide)
        have e11 := ev_tmpF e11
        have q := str_of (c := c9) hr11
        go_simp
        exact hK.out _ _ (Ext.refl _) hB rfl
      case s13 =>
        intro a w1 hF hB hdep K hK
        rw [if_pos rfl]
        have e9 : a.tmps[74]?.getD undef = .string (strB L0) := ev_tmpF (show a.eval (.tmp 74) = .string (strB L0) from hdep 9 (by decide))
        have e12 : a.tmps[77]?.getD undef = .string (strB L0) := ev_tmpF (show a.eval (.tmp 77) = .string (strB L0) from hdep 12 (by decide))
        have q1 := HQ3.out
        have q2 := HQ4.out
        go_simp
        exact hK.out _ _ (Ext.refl _) hB rfl
      case s14 =>
        intro a w1 hF hB hdep K hK
        rw [if_pos rfl]
        have e6 : a.tmps[71]?.getD undef = .bool false := ev_tmpF (show a.eval (.tmp 71) = .bool false from hdep 6 (by decide))
        have e13 : a.tmps[78]?.getD undef = .bool false := ev_tmpF (show a.eval (.tmp 78) = .bool false from hdep 13 (by decide))
        go_simp
        exact hK.out _ _ (Ext.refl _) hB rfl
    case hm => kernel_rfl
    case hb => kernel_rfl
    case inj =>
      intro i j hi hj h
      have h1 : ((List.range 15).all fun i => (List.range 15).all fun j => !(dstR10 i == dstR10 j) || (i == j)) = true := by kernel_rfl
      have h2 := List.all_eq_true.1 (List.all_eq_true.1 h1 i (List.mem_range.2 hi)) j (List.mem_range.2 hj)
      simpa [h] using h2
    case dst => exact all_ops (AllFrom.cons rfl (AllFrom.cons rfl (AllFrom.cons rfl (AllFrom.cons rfl (AllFrom.cons rfl (AllFrom.cons rfl (AllFrom.cons rfl (AllFrom.cons rfl (AllFrom.cons rfl (AllFrom.cons rfl (AllFrom.cons rfl (AllFrom.cons rfl (AllFrom.cons rfl (AllFrom.cons rfl (AllFrom.cons rfl AllFrom.nil)))))))))))))))
    case deps =>
      intro i hi j hj
      refine deps_ofF (deps := depsR10) ?_ i hi j hj
      kernel_rfl
    case want => exact all_ops (AllFrom.cons (fun U w hd => rfl) (AllFrom.cons (fun U w hd => rfl) (AllFrom.cons (fun U w hd => rfl) (AllFrom.cons (fun U w hd => rfl) (AllFrom.cons (fun U w hd => rfl) (AllFrom.cons (fun U w hd => rfl) (AllFrom.cons (fun U w hd => rfl) (AllFrom.cons (fun U w hd => wanted_ofF rfl (yielded_ofF (s := 71) (b := false) rfl ((show _ = some (U 71) from by kernel_rfl).trans (congrArg some (show U 71 = .bool false from hd 6 (by decide))))) rfl) (AllFrom.cons (fun U w hd => wanted_ofF rfl (yielded_ofF (s := 71) (b := false) rfl ((show _ = some (U 71) from by kernel_rfl).trans (congrArg some (show U 71 = .bool false from hd 6 (by decide))))) rfl) (AllFrom.cons (fun U w hd => wanted_ofF rfl (yielded_ofF (s := 71) (b := false) rfl ((show _ = some (U 71) from by kernel_rfl).trans (congrArg some (show U 71 = .bool false from hd 6 (by decide))))) rfl) (AllFrom.cons (fun U w hd => wanted_ofF rfl (yielded_ofF (s := 71) (b := false) rfl ((show _ = some (U 71) from by kernel_rfl).trans (congrArg some (show U 71 = .bool false from hd 6 (by decide))))) rfl) (AllFrom.cons (fun U w hd => wanted_ofF rfl (yielded_ofF (s := 71) (b := false) rfl ((show _ = some (U 71) from by kernel_rfl).trans (congrArg some (show U 71 = .bool false from hd 6 (by decide))))) rfl) (AllFrom.cons (fun U w hd => wanted_ofF rfl (yielded_ofF (s := 71) (b := false) rfl ((show _ = some (U 71) from by kernel_rfl).trans (congrArg some (show U 71 = .bool false from hd 6 (by decide))))) rfl) (AllFrom.cons (fun U w hd => wanted_ofF rfl (yielded_ofF (s := 71) (b := false) rfl ((show _ = some (U 71) from by kernel_rfl).trans (congrArg some (show U 71 = .bool false from hd 6 (by decide))))) rfl) (AllFrom.cons (fun U w hd => rfl) AllFrom.nil)))))))))))))))
    case put => exact all_ops (AllFrom.cons (fun _ _ => by kernel_rfl) (AllFrom.cons (fun _ _ => by kernel_rfl) (AllFrom.cons (fun _ _ => by kernel_rfl) (AllFrom.cons (fun _ _ => by kernel_rfl) (AllFrom.cons (fun _ _ => by kernel_rfl) (AllFrom.cons (fun _ _ => by kernel_rfl) (AllFrom.cons (fun _ _ => by kernel_rfl) (AllFrom.cons (fun _ _ => by kernel_rfl) (AllFrom.cons (fun _ _ => by kernel_rfl) (AllFrom.cons (fun _ _ => by kernel_rfl) (AllFrom.cons (fun _ _ => by kernel_rfl) (AllFrom.cons (fun _ _ => by kernel_rfl) (AllFrom.cons (fun _ _ => by kernel_rfl) (AllFrom.cons (fun _ _ => by kernel_rfl) (AllFrom.cons (fun _ _ => by kernel_rfl) AllFrom.nil)))))))))))))))
    case ev => exact all_ops (AllFrom.cons (fun _ => by kernel_rfl) (AllFrom.cons (fun _ => by kernel_rfl) (AllFrom.cons (fun _ => by kernel_rfl) (AllFrom.cons (fun _ => by kernel_rfl) (AllFrom.cons (fun _ => by kernel_rfl) (AllFrom.cons (fun _ => by kernel_rfl) (AllFrom.cons (fun _ => by kernel_rfl) (AllFrom.cons (fun _ => by kernel_rfl) (AllFrom.cons (fun _ => by kernel_rfl) (AllFrom.cons (fun _ => by kernel_rfl) (AllFrom.cons (fun _ => by kernel_rfl) (AllFrom.cons (fun _ => by kernel_rfl) (AllFrom.cons (fun _ => by kernel_rfl) (AllFrom.cons (fun _ => by kernel_rfl) (AllFrom.cons (fun _ => by kernel_rfl) AllFrom.nil)))))))))))))))
    case fr => exact fun U => ⟨by kernel_rfl, by kernel_rfl, by kernel_rfl⟩
    case done =>
      intro U w' hB hV
      have e1 : U 79 = .bool false := hV 14 (by decide)
      unfold frameR10
      rw [e1]
      have HB9 := Lib.hid hB
      clear hV e1 hB
      go_wp2_with fail
      go_meet
      exact ⟨rfl, HB9⟩
  case rest =>
    obtain ⟨rfl, HB7⟩ := hcut
    rename World => w7
    have hbs := HB7.out
    have HR4 := Lib.hid ((HR4.out.below hbs).fit)
    have HU := Lib.hid (ownsRow_below HU.out hbs)
    have HB := Lib.hid (HB.out.trans (hbs.mono HB.out.size))
    have HL1 := Lib.hid (HL1.out.below hbs).fit
    have HGB : Hid (w4.heap.size ≤ gb) := Lib.hid hgb
    clear hbs HB7 HX HK1 HK2 HM1 CW1 CW2 CW3 HQ1 HQ2 HQ3 HQ4 HM hgb hgb2
    have hcap4 := HCAP4.out
    obtain ⟨i9, hi1, hi2, hi3, hi4⟩ := info_parts byteT.info
    have hsl := run_slice_to (P := Try.prog) (t := 22) byteT.under hi1 A4 L.length c4 k (by omega)
    clear hi1 hi2 hi3 hi4 HCAP4
    obtain ⟨wc, hwc⟩ : ∃ x, w7 = x := ⟨_, rfl⟩
    rw [hwc] at HR4 HU HB HL1 ⊢
    clear hwc
    go_upto_region 12 with fail
    go_cut [92, 93, 94] from 80 to 94 (fun s92 s93 s94 wx => ∃ (gx : Nat) (A7 : Option Addr) (c7 : Nat), s92 = .slice (some ⟨gx, 0, none⟩) 5 5 ∧ s93 = .int .i64 5 ∧ s94 = .int .i64 0 ∧ Hid (Blk wx gx 22 #[.slice A l.length cap, .slice A4 L.length c4, .slice (some ⟨gb, 0, none⟩) L.length c6, .slice A4 k c4, .slice A7 (L.length + 1) c7]) ∧ Hid (Rd wx wx.heap.size A7 (L.length + 1) (bv (L ++ [y]))) ∧ Hid (L.length + 1 ≤ c7 ∧ c7 ≤ maxLen) ∧ Hid (Below wc.heap.size wc wx))
    case first =>
      have hS0 : Below wc.heap.size wc wc.drew := (Below.refl _ _).drew
      refine wp_region_held_drew (S := fun w' => Below wc.heap.size wc w') (by kernel_rfl) hS0 (fun _ => ?_)
      have hS := Lib.hid hS0
      clear hS0
      generalize wc.drew = vd at hS ⊢
      refine wpAnyH_take (i := 0) (v := .slice A l.length cap) rfl (by kernel_rfl) (by kernel_rfl) (by kernel_rfl) (fun _ _ _ h => h) (Or.inl ⟨by kernel_rfl, fun w _ => by go_simp⟩) hS.out ?_
      refine wpAnyH_take (i := 1) (v := .slice A4 L.length c4) rfl (by kernel_rfl) (by kernel_rfl) (by kernel_rfl) (fun _ _ _ h => h) (Or.inl ⟨by kernel_rfl, fun w _ => by go_simp⟩) hS.out ?_
      refine wpAnyH_take (i := 2) (v := .slice (some ⟨gb, 0, none⟩) L.length c6) rfl (by kernel_rfl) (by kernel_rfl) (by kernel_rfl) (fun _ _ _ h => h) (Or.inl ⟨by kernel_rfl, fun w _ => by go_simp⟩) hS.out ?_
      refine wpAnyH_take (i := 3) (v := .slice A4 L.length c4) rfl (by kernel_rfl) (by kernel_rfl) (by kernel_rfl) (fun _ _ _ h => h) (Or.inl ⟨by kernel_rfl, fun w _ => by go_simp⟩) hS.out ?_
      refine wpAnyH_take (i := 4) (v := .int .i64 (k : Int)) rfl (by kernel_rfl) (by kernel_rfl) (by kernel_rfl) (fun _ _ _ h => h) (Or.inl ⟨by kernel_rfl, fun w _ => by go_simp⟩) hS.out ?_
      refine wpAnyH_take (i := 5) (v := .slice A4 k c4) rfl (by kernel_rfl) (by kernel_rfl) (by kernel_rfl) (fun _ _ _ h => h) (Or.inl ⟨by kernel_rfl, fun w _ => by go_simp⟩) hS.out ?_
      refine wpAnyH_take (i := 7) (v := .slice A4 L.length c4) rfl (by kernel_rfl) (by kernel_rfl) (by kernel_rfl) (fun _ _ _ h => h) (Or.inl ⟨by kernel_rfl, fun w _ => by go_simp⟩) hS.out ?_
      refine wpAnyH_take (i := 9) (v := .int .u8 (y : Int)) rfl (by kernel_rfl) (by kernel_rfl) (by kernel_rfl) (fun _ _ _ h => h) (Or.inl ⟨by kernel_rfl, fun w _ => by go_simp⟩) hS.out ?_
      refine wpAnyH_take (i := 14) (v := .int .i64 0) rfl (by kernel_rfl) (by kernel_rfl) (by kernel_rfl) (fun _ _ _ h => h) (Or.inl ⟨by kernel_rfl, fun w _ => by go_simp⟩) hS.out ?_
      refine wpAnyH_ready (rs := [6, 10]) (by kernel_rfl) (by simp) ?_
      refine AllReadyH.cons rfl (fun K hK => ?_) (AllReadyH.cons rfl (fun K hK => ?_) AllReadyH.nil)
      · go_simp
        refine hK.out _ _ (hS.out.alloc hS.out.size _) (fun _ => ?_)
        clear hK K
        obtain ⟨h0, hh0⟩ : ∃ x, vd.heap.size = x := ⟨_, rfl⟩
        have hown0 : (vd.alloc (.cells #[] 5)).ownsRow wc.heap.size 5 1 (.slice (some ⟨h0, 0, none⟩) 0 0) 0 [] := by rw [← hh0]; exact own_empty (W := wc) hS.out 5
        have hb0 : Below vd.heap.size vd (vd.alloc (.cells #[] 5)) := (Below.refl _ _).alloc (Nat.le_refl _) _
        have hS := Lib.hid (hS.out.trans (hb0.mono hS.out.size))
        rw [hh0]
        clear hh0
        generalize vd.alloc (.cells #[] 5) = v1 at hown0 hb0 hS ⊢
        clear hb0
        refine wpAnyH_ready (rs := [8, 10]) (by kernel_rfl) (by simp) ?_
        refine AllReadyH.cons rfl (fun K hK => ?_) (AllReadyH.cons rfl (fun K hK => ?_) AllReadyH.nil)
        · refine step_append_BN (W := wc) (c' := c4) cellB (.tmp 86) (.tmp 87) rfl rfl (by kernel_rfl) hown0 (by kernel_rfl) (HR4.out.below hS.out) Rd.oneCell (N := L.length) (by omega) (by omega) (by omega) hS.out ?_
          intro B4 e4 v2 hown1 hBn hgn
          have hS := Lib.hid hBn
          refine hK.out _ _ hS.out (fun _ => ?_)
          clear hK K hown0 hBn hgn
          refine wpAnyH_ready (rs := [10]) (by kernel_rfl) (by simp) ?_
          refine AllReadyH.cons rfl (fun K hK => ?_) AllReadyH.nil
          go_simp
          refine hK.out _ _ (hS.out.alloc hS.out.size _) (fun _ => ?_)
          clear hK K
          obtain ⟨h1, hh1⟩ : ∃ x, v2.heap.size = x := ⟨_, rfl⟩
          have hent := (Rd.oneAt v2 (.int .u8 (y : Int)) 5 hh1).fit
          have hb0 : Below v2.heap.size v2 (v2.alloc (.cells #[.int .u8 (y : Int)] 5)) := (Below.refl _ _).alloc (Nat.le_refl _) _
          have hS := Lib.hid (hS.out.trans (hb0.mono hS.out.size))
          have hown1 := ownsRow_below hown1 hb0
          rw [hh1]
          clear hh1
          generalize v2.alloc (.cells #[.int .u8 (y : Int)] 5) = v3 at hent hb0 hS hown1 ⊢
          clear hb0
          refine wpAnyH_ready (rs := [11]) (by kernel_rfl) (by simp) ?_
          refine AllReadyH.cons rfl (fun K hK => ?_) AllReadyH.nil
          refine step_append_BN (W := wc) (c' := 1) cellB (.tmp 88) (.tmp 90) rfl rfl (by kernel_rfl) hown1 (by kernel_rfl) hent (by intro u hu; simp at hu; subst hu; rfl) (N := L.length + 1) rfl (by omega) (by omega) hS.out ?_
          intro A7 c7 v11 hown2 hBn hgn
          have hS := Lib.hid hBn
          refine hK.out _ _ hS.out (fun _ => ?_)
          clear hK K hown1 hBn hgn hent
          refine wpAnyH_ready (rs := [12]) (by kernel_rfl) (by simp) ?_
          refine AllReadyH.cons rfl (fun K hK => ?_) AllReadyH.nil
          go_simp
          refine hK.out _ _ (hS.out.alloc hS.out.size _) (fun _ => ?_)
          clear hK K
          obtain ⟨gx, hgx⟩ : ∃ x, v11.heap.size = x := ⟨_, rfl⟩
          have hbx := Blk.newAt v11 22 #[.slice A l.length cap, .slice A4 L.length c4, .slice (some ⟨gb, 0, none⟩) L.length c6, .slice A4 k c4, .slice A7 (L.length + 1) c7] hgx
          have hb0 : Below v11.heap.size v11 (v11.alloc (.cells #[.slice A l.length cap, .slice A4 L.length c4, .slice (some ⟨gb, 0, none⟩) L.length c6, .slice A4 k c4, .slice A7 (L.length + 1) c7] 22)) := (Below.refl _ _).alloc (Nat.le_refl _) _
          have hS := Lib.hid (hS.out.trans (hb0.mono hS.out.size))
          have hr7 := ((Rd.own_ hown2).below hb0).fit
          have hc7 := own_cap hown2
          rw [hgx]
          clear hgx hown2
          generalize v11.alloc (.cells #[.slice A l.length cap, .slice A4 L.length c4, .slice (some ⟨gb, 0, none⟩) L.length c6, .slice A4 k c4, .slice A7 (L.length + 1) c7] 22) = v12 at hbx hb0 hS hr7 ⊢
          clear hb0
          refine wpAnyH_take (i := 13) (v := .int .i64 5) rfl (by kernel_rfl) (by kernel_rfl) (by kernel_rfl) (fun _ _ _ h => h) (Or.inl ⟨by kernel_rfl, fun w _ => by go_simp⟩) hS.out ?_
          refine wpAnyH_done (by kernel_rfl) ?_ _
          go_wp2_with fail
          go_meet
          exact ⟨gx, A7, c7, rfl, rfl, rfl, Lib.hid hbx, Lib.hid (by simpa [bv] using hr7), Lib.hid hc7, hS⟩
        · go_simp
          refine hK.out _ _ (hS.out.alloc hS.out.size _) (fun _ => ?_)
          clear hK K
          obtain ⟨h1, hh1⟩ : ∃ x, v1.heap.size = x := ⟨_, rfl⟩
          have hent := (Rd.oneAt v1 (.int .u8 (y : Int)) 5 hh1).fit
          have hb0 : Below v1.heap.size v1 (v1.alloc (.cells #[.int .u8 (y : Int)] 5)) := (Below.refl _ _).alloc (Nat.le_refl _) _
          have hS := Lib.hid (hS.out.trans (hb0.mono hS.out.size))
          have HG01 : Hid (h0 ≠ h1) := Lib.hid (by have := (hown0.lt h0 rfl).2; omega)
          have hown0 := ownsRow_below hown0 hb0
          rw [hh1]
          clear hh1
          generalize v1.alloc (.cells #[.int .u8 (y : Int)] 5) = v2 at hent hb0 hS hown0 ⊢
          clear hb0
          refine wpAnyH_ready (rs := [8]) (by kernel_rfl) (by simp) ?_
          refine AllReadyH.cons rfl (fun K hK => ?_) AllReadyH.nil
          refine step_append_BN (W := wc) (c' := c4) cellB (.tmp 86) (.tmp 87) rfl rfl (by kernel_rfl) hown0 (by kernel_rfl) (HR4.out.below hS.out) Rd.oneCell (N := L.length) (by omega) (by omega) (by omega) hS.out ?_
          intro B4 e4 v3 hown1 hBn hgn
          have hgb : ∀ k, (Value.slice (some ⟨h0, 0, none⟩) 0 0).ownBlock = some k → k ≠ h1 := by
            intro k hk
            have h1 : h0 = k := by simpa [Value.ownBlock] using hk
            have h2 := HG01.out
            omega
          have hent := hent.rowOther hgn hgb
          have hS := Lib.hid hBn
          refine hK.out _ _ hS.out (fun _ => ?_)
          clear hK K hown0 hBn hgn
          refine wpAnyH_ready (rs := [11]) (by kernel_rfl) (by simp) ?_
          refine AllReadyH.cons rfl (fun K hK => ?_) AllReadyH.nil
          refine step_append_BN (W := wc) (c' := 1) cellB (.tmp 88) (.tmp 90) rfl rfl (by kernel_rfl) hown1 (by kernel_rfl) hent (by intro u hu; simp at hu; subst hu; rfl) (N := L.length + 1) rfl (by omega) (by omega) hS.out ?_
          intro A7 c7 v11 hown2 hBn hgn
          have hS := Lib.hid hBn
          refine hK.out _ _ hS.out (fun _ => ?_)
          clear hK K hown1 hBn hgn hent
          refine wpAnyH_ready (rs := [12]) (by kernel_rfl) (by simp) ?_
          refine AllReadyH.cons rfl (fun K hK => ?_) AllReadyH.nil
          go_simp
          refine hK.out _ _ (hS.out.alloc hS.out.size _) (fun _ => ?_)
          clear hK K
          obtain ⟨gx, hgx⟩ : ∃ x, v11.heap.size = x := ⟨_, rfl⟩
          have hbx := Blk.newAt v11 22 #[.slice A l.length cap, .slice A4 L.length c4, .slice (some ⟨gb, 0, none⟩) L.length c6, .slice A4 k c4, .slice A7 (L.length + 1) c7] hgx
          have hb0 : Below v11.heap.size v11 (v11.alloc (.cells #[.slice A l.length cap, .slice A4 L.length c4, .slice (some ⟨gb, 0, none⟩) L.length c6, .slice A4 k c4, .slice A7 (L.length + 1) c7] 22)) := (Below.refl _ _).alloc (Nat.le_refl _) _
          have hS := Lib.hid (hS.out.trans (hb0.mono hS.out.size))
          have hr7 := ((Rd.own_ hown2).below hb0).fit
          have hc7 := own_cap hown2
          rw [hgx]
          clear hgx hown2
          generalize v11.alloc (.cells #[.slice A l.length cap, .slice A4 L.length c4, .slice (some ⟨gb, 0, none⟩) L.length c6, .slice A4 k c4, .slice A7 (L.length + 1) c7] 22) = v12 at hbx hb0 hS hr7 ⊢
          clear hb0
          refine wpAnyH_take (i := 13) (v := .int .i64 5) rfl (by kernel_rfl) (by kernel_rfl) (by kernel_rfl) (fun _ _ _ h => h) (Or.inl ⟨by kernel_rfl, fun w _ => by go_simp⟩) hS.out ?_
          refine wpAnyH_done (by kernel_rfl) ?_ _
          go_wp2_with fail
          go_meet
          exact ⟨gx, A7, c7, rfl, rfl, rfl, Lib.hid hbx, Lib.hid (by simpa [bv] using hr7), Lib.hid hc7, hS⟩
      · go_simp
        refine hK.out _ _ (hS.out.alloc hS.out.size _) (fun _ => ?_)
        clear hK K
        obtain ⟨h1, hh1⟩ : ∃ x, vd.heap.size = x := ⟨_, rfl⟩
        have hent := (Rd.oneAt vd (.int .u8 (y : Int)) 5 hh1).fit
        have hb0 : Below vd.heap.size vd (vd.alloc (.cells #[.int .u8 (y : Int)] 5)) := (Below.refl _ _).alloc (Nat.le_refl _) _
        have hS := Lib.hid (hS.out.trans (hb0.mono hS.out.size))
        rw [hh1]
        clear hh1
        generalize vd.alloc (.cells #[.int .u8 (y : Int)] 5) = v1 at hent hb0 hS ⊢
        clear hb0
        refine wpAnyH_ready (rs := [6]) (by kernel_rfl) (by simp) ?_
        refine AllReadyH.cons rfl (fun K hK => ?_) AllReadyH.nil
        go_simp
        refine hK.out _ _ (hS.out.alloc hS.out.size _) (fun _ => ?_)
        clear hK K
        obtain ⟨h0, hh0⟩ : ∃ x, v1.heap.size = x := ⟨_, rfl⟩
        have hown0 : (v1.alloc (.cells #[] 5)).ownsRow wc.heap.size 5 1 (.slice (some ⟨h0, 0, none⟩) 0 0) 0 [] := by rw [← hh0]; exact own_empty (W := wc) hS.out 5
        have hb0 : Below v1.heap.size v1 (v1.alloc (.cells #[] 5)) := (Below.refl _ _).alloc (Nat.le_refl _) _
        have hS := Lib.hid (hS.out.trans (hb0.mono hS.out.size))
        have HG01 : Hid (h0 ≠ h1) := Lib.hid (by obtain ⟨b', o', e', hb', _⟩ := hent.2 (by omega); injection e' with e'; injection e' with e1' e2'; omega)
        have hent := (hent.below hb0).fit
        rw [hh0]
        clear hh0
        generalize v1.alloc (.cells #[] 5) = v2 at hown0 hb0 hS hent ⊢
        clear hb0
        refine wpAnyH_ready (rs := [8]) (by kernel_rfl) (by simp) ?_
        refine AllReadyH.cons rfl (fun K hK => ?_) AllReadyH.nil
        refine step_append_BN (W := wc) (c' := c4) cellB (.tmp 86) (.tmp 87) rfl rfl (by kernel_rfl) hown0 (by kernel_rfl) (HR4.out.below hS.out) Rd.oneCell (N := L.length) (by omega) (by omega) (by omega) hS.out ?_
        intro B4 e4 v3 hown1 hBn hgn
        have hgb : ∀ k, (Value.slice (some ⟨h0, 0, none⟩) 0 0).ownBlock = some k → k ≠ h1 := by
          intro k hk
          have h1 : h0 = k := by simpa [Value.ownBlock] using hk
          have h2 := HG01.out
          omega
        have hent := hent.rowOther hgn hgb
        have hS := Lib.hid hBn
        refine hK.out _ _ hS.out (fun _ => ?_)
        clear hK K hown0 hBn hgn
        refine wpAnyH_ready (rs := [11]) (by kernel_rfl) (by simp) ?_
        refine AllReadyH.cons rfl (fun K hK => ?_) AllReadyH.nil
        refine step_append_BN (W := wc) (c' := 1) cellB (.tmp 88) (.tmp 90) rfl rfl (by kernel_rfl) hown1 (by kernel_rfl) hent (by intro u hu; simp at hu; subst hu; rfl) (N := L.length + 1) rfl (by omega) (by omega) hS.out ?_
        intro A7 c7 v11 hown2 hBn hgn
        have hS := Lib.hid hBn
        refine hK.out _ _ hS.out (fun _ => ?_)
        clear hK K hown1 hBn hgn hent
        refine wpAnyH_ready (rs := [12]) (by kernel_rfl) (by simp) ?_
        refine AllReadyH.cons rfl (fun K hK => ?_) AllReadyH.nil
        go_simp
        refine hK.out _ _ (hS.out.alloc hS.out.size _) (fun _ => ?_)
        clear hK K
        obtain ⟨gx, hgx⟩ : ∃ x, v11.heap.size = x := ⟨_, rfl⟩
        have hbx := Blk.newAt v11 22 #[.slice A l.length cap, .slice A4 L.length c4, .slice (some ⟨gb, 0, none⟩) L.length c6, .slice A4 k c4, .slice A7 (L.length + 1) c7] hgx
        have hb0 : Below v11.heap.size v11 (v11.alloc (.cells #[.slice A l.length cap, .slice A4 L.length c4, .slice (some ⟨gb, 0, none⟩) L.length c6, .slice A4 k c4, .slice A7 (L.length + 1) c7] 22)) := (Below.refl _ _).alloc (Nat.le_refl _) _
        have hS := Lib.hid (hS.out.trans (hb0.mono hS.out.size))
        have hr7 := ((Rd.own_ hown2).below hb0).fit
        have hc7 := own_cap hown2
        rw [hgx]
        clear hgx hown2
        generalize v11.alloc (.cells #[.slice A l.length cap, .slice A4 L.length c4, .slice (some ⟨gb, 0, none⟩) L.length c6, .slice A4 k c4, .slice A7 (L.length + 1) c7] 22) = v12 at hbx hb0 hS hr7 ⊢
        clear hb0
        refine wpAnyH_take (i := 13) (v := .int .i64 5) rfl (by kernel_rfl) (by kernel_rfl) (by kernel_rfl) (fun _ _ _ h => h) (Or.inl ⟨by kernel_rfl, fun w _ => by go_simp⟩) hS.out ?_
        refine wpAnyH_done (by kernel_rfl) ?_ _
        go_wp2_with fail
        go_meet
        exact ⟨gx, A7, c7, rfl, rfl, rfl, Lib.hid hbx, Lib.hid (by simpa [bv] using hr7), Lib.hid hc7, hS⟩
    case rest =>
      obtain ⟨gx, A7, c7, rfl, rfl, rfl, HBX, HR7, HC7, HB30⟩ := hcut
      rename World => we
      clear hsl
      have HBE := Lib.hid (HB.out.trans (HB30.out.mono HB.out.size))
      have HROW : Hid (∀ wx, Below we.heap.size we wx → ∀ j, j < 5 → ∃ A n c l, wx.cell? ⟨gx, j, none⟩ = some (.slice A n c) ∧ Rd wx wx.heap.size A n (bv l) ∧ n ≤ c ∧ c ≤ maxLen ∧ l.length ≤ 100000 ∧ ∀ x ∈ l, x < 256) := Lib.hid (fun wx hb j hj => by
        have hk := HBX.out.below hb
        have hb1 := HB30.out.trans (hb.mono HB30.out.size)
        have ht := (HR4.out.below hb1).fit
        match j, hj with
        | 0, _ => exact ⟨_, _, _, l, hk.cell 0, (HL1.out.below hb1).fit, HLC.out.1, HLC.out.2, by have := HL200.out; omega, HLT.out⟩
        | 1, _ => exact ⟨_, _, _, L, hk.cell 1, ht, hcap4.1, hcap4.2, by omega, F.out.lt⟩
        | 2, _ => exact ⟨_, _, _, L.set k y, hk.cell 2, ((Rd.own_ HU.out).below hb1).fit, (own_cap HU.out).1, (own_cap HU.out).2, by rw [List.length_set]; omega, fun x hx => by
            rcases List.mem_or_eq_of_mem_set hx with h1 | h1
            · exact F.out.lt x h1
            · have := HY.out; omega⟩
        | 3, _ => exact ⟨_, _, _, L.take k, hk.cell 3, by rw [bv_take]; exact ht.take (by omega), by omega, hcap4.2, by rw [List.length_take]; omega, fun x hx => F.out.lt x (List.mem_of_mem_take hx)⟩
        | 4, _ => exact ⟨_, _, _, L ++ [y], hk.cell 4, (HR7.out.below hb).fit, HC7.out.1, HC7.out.2, by rw [List.length_append]; simp; omega, fun x hx => by
            rcases List.mem_append.1 hx with h1 | h1
            · exact F.out.lt x h1
            · have := HY.out; simp at h1; omega⟩)
      clear HBX HR7 HC7 HU HR4 HL1 HB HLC HLT HY HL200 HB30 hlen9 hpos hk hkl hl0 hl0b hki hk0 hlp hcap4 HWD0 HL0 HL HGB
      go_wp2_with fail
      go_loopw [94] (fun s94 wr => ∃ (j : Nat), j ≤ 5 ∧ s94 = .int .i64 (j : Int) ∧ Hid (Below we.heap.size we wr)) (fun s94 _ => 5 - (intOf s94).toNat)
      case atStart => exact ⟨0, by omega, rfl, Lib.hid (Below.refl _ _)⟩
      case round =>
        obtain ⟨j, hj, rfl, HBL⟩ := hrel
        rename World => wl
        by_cases hj5 : j < 5
        · have hji : (j : Int) < 5 := by omega
          have hj0 : (0 : Int) ≤ (j : Int) := by omega
          have hwj : IntKind.i64.wrap ((j : Int) + 1) = (j : Int) + 1 := IntWalk.i64_in _ (by omega)
          obtain ⟨A8, n8, c8, l8, hc8, hr8, hnc8, hcm8, hll8, hlb8⟩ := HROW.out _ HBL.out j hj5
          obtain ⟨R, hR⟩ : ∃ R, Fr.opn l8 = R := ⟨_, rfl⟩
          have HRW : Hid ((R.getD Mg.zero).Wide) := Lib.hid (by rw [← hR]; exact fr_wideD hlb8)
          have C1 : Hid (Calls Try.prog 22 #[.slice A8 n8 c8] wl (GotG wl wl R)) := Lib.hid (fropen_is (W := wl) hR (by omega) hlb8 hnc8 hr8 (Below.refl _ _))
          have C2 : Hid (∀ wx, Below wl.heap.size wl wx → Calls Try.prog 25 #[.slice A8 n8 c8] wx (GotG wx wx R)) := Lib.hid (fun wx hb => refOpen (W := wx) hR (by omega) hlb8 ⟨hnc8, hcm8⟩ (hr8.below hb) (Below.refl _ _))
          clear hR hr8 hnc8 hcm8 hll8 hlb8
          obtain ⟨RM, hRM⟩ : ∃ x, R.getD Mg.zero = x := ⟨_, rfl⟩
          obtain ⟨RB, hRB⟩ : ∃ x, R.isSome = x := ⟨_, rfl⟩
          rw [hRM] at HRW
          unfold GotG at C1 C2
          rw [hRM, hRB] at C1
          rw [hRM, hRB] at C2
          clear hRM hRB
          go_upto_region 16 with (first
            | (go_at_call 22; refine C1.out.mono ?_; rintro en w6 ⟨au, he, hou, hBu, hbu⟩
               have he2 : en = .returned (.tuple #[.agg #[.int .i64 RM.kind, .int .i64 RM.frm, .int .i64 RM.dst, .int .i64 RM.view, .int .i64 RM.inst, .int .i64 RM.len, .bool RM.has, .int .i64 RM.mem, .int .i64 RM.src, .int .i64 RM.pos, .int .i64 RM.tot, .slice au.Ad RM.data.length au.cd, .int .i64 RM.hop, .int .i64 RM.seq, .slice au.Ah RM.hav.length au.ch, .slice au.An RM.nee.length au.cn, .int .i64 RM.idx, .int .i64 RM.ent.s, .int .i64 RM.ent.q, .int .i64 RM.ent.c.kind, .int .i64 RM.ent.c.who, .slice au.c.Ak RM.ent.c.key.length au.c.ck, .slice au.c.Av RM.ent.c.val.length au.c.cv, .slice au.c.Ao RM.ent.c.old.length au.c.co], .bool RB]) := he
               clear he
               subst he2
               have HOU := Lib.hid hou
               have HB6 := Lib.hid hbu
               have HZ6 := Lib.hid (Blk.new w6 29 #[.int .i64 0, .int .i64 0, .int .i64 0, .int .i64 0, .int .i64 0, .int .i64 0, .bool false, .int .i64 0, .int .i64 0, .int .i64 0, .int .i64 0, .slice none 0 0, .int .i64 0, .int .i64 0, .slice none 0 0, .slice none 0 0, .int .i64 0, .int .i64 0, .int .i64 0, .int .i64 0, .int .i64 0, .slice none 0 0, .slice none 0 0, .slice none 0 0])
               clear hou hBu hbu)
            | (refine wpList_store_row rfl 29 (.tmp 19) (.tmp 101) rfl w6.heap.size #[.int .i64 RM.kind, .int .i64 RM.frm, .int .i64 RM.dst, .int .i64 RM.view, .int .i64 RM.inst, .int .i64 RM.len, .bool RM.has, .int .i64 RM.mem, .int .i64 RM.src, .int .i64 RM.pos, .int .i64 RM.tot, .slice au.Ad RM.data.length au.cd, .int .i64 RM.hop, .int .i64 RM.seq, .slice au.Ah RM.hav.length au.ch, .slice au.An RM.nee.length au.cn, .int .i64 RM.idx, .int .i64 RM.ent.s, .int .i64 RM.ent.q, .int .i64 RM.ent.c.kind, .int .i64 RM.ent.c.who, .slice au.c.Ak RM.ent.c.key.length au.c.ck, .slice au.c.Av RM.ent.c.val.length au.c.cv, .slice au.c.Ao RM.ent.c.old.length au.c.co] rfl rfl 29 #[.int .i64 0, .int .i64 0, .int .i64 0, .int .i64 0, .int .i64 0, .int .i64 0, .bool false, .int .i64 0, .int .i64 0, .int .i64 0, .int .i64 0, .slice none 0 0, .int .i64 0, .int .i64 0, .slice none 0 0, .slice none 0 0, .int .i64 0, .int .i64 0, .int .i64 0, .int .i64 0, .int .i64 0, .slice none 0 0, .slice none 0 0, .slice none 0 0] HZ6.out (by kernel_rfl) rfl (by kernel_rfl) ?_)
            | fail)
          have b67 : Below w6.heap.size w6 ((w6.alloc (.cells #[.int .i64 0, .int .i64 0, .int .i64 0, .int .i64 0, .int .i64 0, .int .i64 0, .bool false, .int .i64 0, .int .i64 0, .int .i64 0, .int .i64 0, .slice none 0 0, .int .i64 0, .int .i64 0, .slice none 0 0, .slice none 0 0, .int .i64 0, .int .i64 0, .int .i64 0, .int .i64 0, .int .i64 0, .slice none 0 0, .slice none 0 0, .slice none 0 0] 29)).setRow w6.heap.size #[.int .i64 RM.kind, .int .i64 RM.frm, .int .i64 RM.dst, .int .i64 RM.view, .int .i64 RM.inst, .int .i64 RM.len, .bool RM.has, .int .i64 RM.mem, .int .i64 RM.src, .int .i64 RM.pos, .int .i64 RM.tot, .slice au.Ad RM.data.length au.cd, .int .i64 RM.hop, .int .i64 RM.seq, .slice au.Ah RM.hav.length au.ch, .slice au.An RM.nee.length au.cn, .int .i64 RM.idx, .int .i64 RM.ent.s, .int .i64 RM.ent.q, .int .i64 RM.ent.c.kind, .int .i64 RM.ent.c.who, .slice au.c.Ak RM.ent.c.key.length au.c.ck, .slice au.c.Av RM.ent.c.val.length au.c.cv, .slice au.c.Ao RM.ent.c.old.length au.c.co]) := below_setRow ((Below.refl _ _).alloc (Nat.le_refl _) _) (Nat.le_refl _) _
          have k5 := HZ6.out.row #[.int .i64 RM.kind, .int .i64 RM.frm, .int .i64 RM.dst, .int .i64 RM.view, .int .i64 RM.inst, .int .i64 RM.len, .bool RM.has, .int .i64 RM.mem, .int .i64 RM.src, .int .i64 RM.pos, .int .i64 RM.tot, .slice au.Ad RM.data.length au.cd, .int .i64 RM.hop, .int .i64 RM.seq, .slice au.Ah RM.hav.length au.ch, .slice au.An RM.nee.length au.cn, .int .i64 RM.idx, .int .i64 RM.ent.s, .int .i64 RM.ent.q, .int .i64 RM.ent.c.kind, .int .i64 RM.ent.c.who, .slice au.c.Ak RM.ent.c.key.length au.c.ck, .slice au.c.Av RM.ent.c.val.length au.c.cv, .slice au.c.Ao RM.ent.c.old.length au.c.co]
          obtain ⟨g5, hg5⟩ : ∃ h, w6.heap.size = h := ⟨_, rfl⟩
          generalize (w6.alloc (.cells #[.int .i64 0, .int .i64 0, .int .i64 0, .int .i64 0, .int .i64 0, .int .i64 0, .bool false, .int .i64 0, .int .i64 0, .int .i64 0, .int .i64 0, .slice none 0 0, .int .i64 0, .int .i64 0, .slice none 0 0, .slice none 0 0, .int .i64 0, .int .i64 0, .int .i64 0, .int .i64 0, .int .i64 0, .slice none 0 0, .slice none 0 0, .slice none 0 0] 29)).setRow w6.heap.size #[.int .i64 RM.kind, .int .i64 RM.frm, .int .i64 RM.dst, .int .i64 RM.view, .int .i64 RM.inst, .int .i64 RM.len, .bool RM.has, .int .i64 RM.mem, .int .i64 RM.src, .int .i64 RM.pos, .int .i64 RM.tot, .slice au.Ad RM.data.length au.cd, .int .i64 RM.hop, .int .i64 RM.seq, .slice au.Ah RM.hav.length au.ch, .slice au.An RM.nee.length au.cn, .int .i64 RM.idx, .int .i64 RM.ent.s, .int .i64 RM.ent.q, .int .i64 RM.ent.c.kind, .int .i64 RM.ent.c.who, .slice au.c.Ak RM.ent.c.key.length au.c.ck, .slice au.c.Av RM.ent.c.val.length au.c.cv, .slice au.c.Ao RM.ent.c.old.length au.c.co] = wm at b67 k5 ⊢
          rw [hg5] at k5 ⊢
          have HRU := Lib.hid (HOU.out.rd.below' b67)
          have HK5 : Hid (Blk wm g5 29 #[.int .i64 RM.kind, .int .i64 RM.frm, .int .i64 RM.dst, .int .i64 RM.view, .int .i64 RM.inst, .int .i64 RM.len, .bool RM.has, .int .i64 RM.mem, .int .i64 RM.src, .int .i64 RM.pos, .int .i64 RM.tot, .slice au.Ad RM.data.length au.cd, .int .i64 RM.hop, .int .i64 RM.seq, .slice au.Ah RM.hav.length au.ch, .slice au.An RM.nee.length au.cn, .int .i64 RM.idx, .int .i64 RM.ent.s, .int .i64 RM.ent.q, .int .i64 RM.ent.c.kind, .int .i64 RM.ent.c.who, .slice au.c.Ak RM.ent.c.key.length au.c.ck, .slice au.c.Av RM.ent.c.val.length au.c.cv, .slice au.c.Ao RM.ent.c.old.length au.c.co]) := Lib.hid k5
          have HBM := Lib.hid (HB6.out.trans (b67.mono HB6.out.size))
          clear b67 k5 hg5 HOU HB6 HZ6 hc8 C1
          try dsimp only [Act.put]
          go_upto_region 17 with (first
            | (go_at_call 25; refine (C2.out _ HBM.out).mono ?_; rintro en w7 ⟨av, he, hov, hBv, hbv⟩
               have he2 : en = .returned (.tuple #[.agg #[.int .i64 RM.kind, .int .i64 RM.frm, .int .i64 RM.dst, .int .i64 RM.view, .int .i64 RM.inst, .int .i64 RM.len, .bool RM.has, .int .i64 RM.mem, .int .i64 RM.src, .int .i64 RM.pos, .int .i64 RM.tot, .slice av.Ad RM.data.length av.cd, .int .i64 RM.hop, .int .i64 RM.seq, .slice av.Ah RM.hav.length av.ch, .slice av.An RM.nee.length av.cn, .int .i64 RM.idx, .int .i64 RM.ent.s, .int .i64 RM.ent.q, .int .i64 RM.ent.c.kind, .int .i64 RM.ent.c.who, .slice av.c.Ak RM.ent.c.key.length av.c.ck, .slice av.c.Av RM.ent.c.val.length av.c.cv, .slice av.c.Ao RM.ent.c.old.length av.c.co], .bool RB]) := he
               clear he
               subst he2
               have HOV := Lib.hid hov
               have HB7 := Lib.hid hbv
               have HZ7 := Lib.hid (Blk.new w7 29 #[.int .i64 0, .int .i64 0, .int .i64 0, .int .i64 0, .int .i64 0, .int .i64 0, .bool false, .int .i64 0, .int .i64 0, .int .i64 0, .int .i64 0, .slice none 0 0, .int .i64 0, .int .i64 0, .slice none 0 0, .slice none 0 0, .int .i64 0, .int .i64 0, .int .i64 0, .int .i64 0, .int .i64 0, .slice none 0 0, .slice none 0 0, .slice none 0 0])
               clear hov hBv hbv)
            | (refine wpList_store_row rfl 29 (.tmp 21) (.tmp 106) rfl w7.heap.size #[.int .i64 RM.kind, .int .i64 RM.frm, .int .i64 RM.dst, .int .i64 RM.view, .int .i64 RM.inst, .int .i64 RM.len, .bool RM.has, .int .i64 RM.mem, .int .i64 RM.src, .int .i64 RM.pos, .int .i64 RM.tot, .slice av.Ad RM.data.length av.cd, .int .i64 RM.hop, .int .i64 RM.seq, .slice av.Ah RM.hav.length av.ch, .slice av.An RM.nee.length av.cn, .int .i64 RM.idx, .int .i64 RM.ent.s, .int .i64 RM.ent.q, .int .i64 RM.ent.c.kind, .int .i64 RM.ent.c.who, .slice av.c.Ak RM.ent.c.key.length av.c.ck, .slice av.c.Av RM.ent.c.val.length av.c.cv, .slice av.c.Ao RM.ent.c.old.length av.c.co] rfl rfl 29 #[.int .i64 0, .int .i64 0, .int .i64 0, .int .i64 0, .int .i64 0, .int .i64 0, .bool false, .int .i64 0, .int .i64 0, .int .i64 0, .int .i64 0, .slice none 0 0, .int .i64 0, .int .i64 0, .slice none 0 0, .slice none 0 0, .int .i64 0, .int .i64 0, .int .i64 0, .int .i64 0, .int .i64 0, .slice none 0 0, .slice none 0 0, .slice none 0 0] HZ7.out (by kernel_rfl) rfl (by kernel_rfl) ?_)
            | fail)
          have b78 : Below w7.heap.size w7 ((w7.alloc (.cells #[.int .i64 0, .int .i64 0, .int .i64 0, .int .i64 0, .int .i64 0, .int .i64 0, .bool false, .int .i64 0, .int .i64 0, .int .i64 0, .int .i64 0, .slice none 0 0, .int .i64 0, .int .i64 0, .slice none 0 0, .slice none 0 0, .int .i64 0, .int .i64 0, .int .i64 0, .int .i64 0, .int .i64 0, .slice none 0 0, .slice none 0 0, .slice none 0 0] 29)).setRow w7.heap.size #[.int .i64 RM.kind, .int .i64 RM.frm, .int .i64 RM.dst, .int .i64 RM.view, .int .i64 RM.inst, .int .i64 RM.len, .bool RM.has, .int .i64 RM.mem, .int .i64 RM.src, .int .i64 RM.pos, .int .i64 RM.tot, .slice av.Ad RM.data.length av.cd, .int .i64 RM.hop, .int .i64 RM.seq, .slice av.Ah RM.hav.length av.ch, .slice av.An RM.nee.length av.cn, .int .i64 RM.idx, .int .i64 RM.ent.s, .int .i64 RM.ent.q, .int .i64 RM.ent.c.kind, .int .i64 RM.ent.c.who, .slice av.c.Ak RM.ent.c.key.length av.c.ck, .slice av.c.Av RM.ent.c.val.length av.c.cv, .slice av.c.Ao RM.ent.c.old.length av.c.co]) := below_setRow ((Below.refl _ _).alloc (Nat.le_refl _) _) (Nat.le_refl _) _
          have k6 := HZ7.out.row #[.int .i64 RM.kind, .int .i64 RM.frm, .int .i64 RM.dst, .int .i64 RM.view, .int .i64 RM.inst, .int .i64 RM.len, .bool RM.has, .int .i64 RM.mem, .int .i64 RM.src, .int .i64 RM.pos, .int .i64 RM.tot, .slice av.Ad RM.data.length av.cd, .int .i64 RM.hop, .int .i64 RM.seq, .slice av.Ah RM.hav.length av.ch, .slice av.An RM.nee.length av.cn, .int .i64 RM.idx, .int .i64 RM.ent.s, .int .i64 RM.ent.q, .int .i64 RM.ent.c.kind, .int .i64 RM.ent.c.who, .slice av.c.Ak RM.ent.c.key.length av.c.ck, .slice av.c.Av RM.ent.c.val.length av.c.cv, .slice av.c.Ao RM.ent.c.old.length av.c.co]
          obtain ⟨g6, hg6⟩ : ∃ h, w7.heap.size = h := ⟨_, rfl⟩
          generalize (w7.alloc (.cells #[.int .i64 0, .int .i64 0, .int .i64 0, .int .i64 0, .int .i64 0, .int .i64 0, .bool false, .int .i64 0, .int .i64 0, .int .i64 0, .int .i64 0, .slice none 0 0, .int .i64 0, .int .i64 0, .slice none 0 0, .slice none 0 0, .int .i64 0, .int .i64 0, .int .i64 0, .int .i64 0, .int .i64 0, .slice none 0 0, .slice none 0 0, .slice none 0 0] 29)).setRow w7.heap.size #[.int .i64 RM.kind, .int .i64 RM.frm, .int .i64 RM.dst, .int .i64 RM.view, .int .i64 RM.inst, .int .i64 RM.len, .bool RM.has, .int .i64 RM.mem, .int .i64 RM.src, .int .i64 RM.pos, .int .i64 RM.tot, .slice av.Ad RM.data.length av.cd, .int .i64 RM.hop, .int .i64 RM.seq, .slice av.Ah RM.hav.length av.ch, .slice av.An RM.nee.length av.cn, .int .i64 RM.idx, .int .i64 RM.ent.s, .int .i64 RM.ent.q, .int .i64 RM.ent.c.kind, .int .i64 RM.ent.c.who, .slice av.c.Ak RM.ent.c.key.length av.c.ck, .slice av.c.Av RM.ent.c.val.length av.c.cv, .slice av.c.Ao RM.ent.c.old.length av.c.co] = wn at b78 k6 ⊢
          rw [hg6] at k6 ⊢
          have bmn : Below wm.heap.size wm wn := HB7.out.trans (b78.mono HB7.out.size)
          have HRV := Lib.hid (HOV.out.rd.below' b78)
          have HRU := Lib.hid (HRU.out.below' bmn)
          have HK5 := Lib.hid (HK5.out.below bmn)
          have HK6 : Hid (Blk wn g6 29 #[.int .i64 RM.kind, .int .i64 RM.frm, .int .i64 RM.dst, .int .i64 RM.view, .int .i64 RM.inst, .int .i64 RM.len, .bool RM.has, .int .i64 RM.mem, .int .i64 RM.src, .int .i64 RM.pos, .int .i64 RM.tot, .slice av.Ad RM.data.length av.cd, .int .i64 RM.hop, .int .i64 RM.seq, .slice av.Ah RM.hav.length av.ch, .slice av.An RM.nee.length av.cn, .int .i64 RM.idx, .int .i64 RM.ent.s, .int .i64 RM.ent.q, .int .i64 RM.ent.c.kind, .int .i64 RM.ent.c.who, .slice av.c.Ak RM.ent.c.key.length av.c.ck, .slice av.c.Av RM.ent.c.val.length av.c.cv, .slice av.c.Ao RM.ent.c.old.length av.c.co]) := Lib.hid k6
          have HBN := Lib.hid (HBM.out.trans (bmn.mono HBM.out.size))
          clear b78 k6 hg6 bmn HOV HB7 HZ7 HBM C2
          have hbb : (RB != RB) = false := by simp
          have C3 : Hid (Calls Try.prog 18 #[.agg #[.int .i64 RM.kind, .int .i64 RM.frm, .int .i64 RM.dst, .int .i64 RM.view, .int .i64 RM.inst, .int .i64 RM.len, .bool RM.has, .int .i64 RM.mem, .int .i64 RM.src, .int .i64 RM.pos, .int .i64 RM.tot, .slice au.Ad RM.data.length au.cd, .int .i64 RM.hop, .int .i64 RM.seq, .slice au.Ah RM.hav.length au.ch, .slice au.An RM.nee.length au.cn, .int .i64 RM.idx, .int .i64 RM.ent.s, .int .i64 RM.ent.q, .int .i64 RM.ent.c.kind, .int .i64 RM.ent.c.who, .slice au.c.Ak RM.ent.c.key.length au.c.ck, .slice au.c.Av RM.ent.c.val.length au.c.cv, .slice au.c.Ao RM.ent.c.old.length au.c.co], .agg #[.int .i64 RM.kind, .int .i64 RM.frm, .int .i64 RM.dst, .int .i64 RM.view, .int .i64 RM.inst, .int .i64 RM.len, .bool RM.has, .int .i64 RM.mem, .int .i64 RM.src, .int .i64 RM.pos, .int .i64 RM.tot, .slice av.Ad RM.data.length av.cd, .int .i64 RM.hop, .int .i64 RM.seq, .slice av.Ah RM.hav.length av.ch, .slice av.An RM.nee.length av.cn, .int .i64 RM.idx, .int .i64 RM.ent.s, .int .i64 RM.ent.q, .int .i64 RM.ent.c.kind, .int .i64 RM.ent.c.who, .slice av.c.Ak RM.ent.c.key.length av.c.ck, .slice av.c.Av RM.ent.c.val.length av.c.cv, .slice av.c.Ao RM.ent.c.old.length av.c.co]] wn fun e w' => e = .returned (.bool true) ∧ Below wn.heap.size wn w') := Lib.hid (by
            have h1 := refSame11_eq wn (a := au) (a' := av) (m := RM) (m' := RM) rfl HRW.out HRW.out HRU.out HRV.out
            rw [decide_eq_true rfl] at h1
            exact h1)
          try dsimp only [Act.put]
          go_wp2_with (first
            | (refine wpList_load_rowW (by kernel_rfl) 29 (.tmp 19) rfl g5 rfl 29 #[.int .i64 RM.kind, .int .i64 RM.frm, .int .i64 RM.dst, .int .i64 RM.view, .int .i64 RM.inst, .int .i64 RM.len, .bool RM.has, .int .i64 RM.mem, .int .i64 RM.src, .int .i64 RM.pos, .int .i64 RM.tot, .slice au.Ad RM.data.length au.cd, .int .i64 RM.hop, .int .i64 RM.seq, .slice au.Ah RM.hav.length au.ch, .slice au.An RM.nee.length au.cn, .int .i64 RM.idx, .int .i64 RM.ent.s, .int .i64 RM.ent.q, .int .i64 RM.ent.c.kind, .int .i64 RM.ent.c.who, .slice au.c.Ak RM.ent.c.key.length au.c.ck, .slice au.c.Av RM.ent.c.val.length au.c.cv, .slice au.c.Ao RM.ent.c.old.length au.c.co] (0, 0) _ HK5.out Try.underlying29 rfl (by kernel_rfl) ?_)
            | (refine wpList_load_rowW (by kernel_rfl) 29 (.tmp 21) rfl g6 rfl 29 #[.int .i64 RM.kind, .int .i64 RM.frm, .int .i64 RM.dst, .int .i64 RM.view, .int .i64 RM.inst, .int .i64 RM.len, .bool RM.has, .int .i64 RM.mem, .int .i64 RM.src, .int .i64 RM.pos, .int .i64 RM.tot, .slice av.Ad RM.data.length av.cd, .int .i64 RM.hop, .int .i64 RM.seq, .slice av.Ah RM.hav.length av.ch, .slice av.An RM.nee.length av.cn, .int .i64 RM.idx, .int .i64 RM.ent.s, .int .i64 RM.ent.q, .int .i64 RM.ent.c.kind, .int .i64 RM.ent.c.who, .slice av.c.Ak RM.ent.c.key.length av.c.ck, .slice av.c.Av RM.ent.c.val.length av.c.cv, .slice av.c.Ao RM.ent.c.old.length av.c.co] (0, 0) _ HK6.out Try.underlying29 rfl (by kernel_rfl) ?_)
            | (go_at_call 18; refine C3.out.mono ?_; rintro en w8 ⟨rfl, hb8⟩; have HB8 := Lib.hid hb8; clear hb8)
            | fail)
          go_roundw
          case rel => exact ⟨j + 1, by omega, by go_num, Lib.hid ((HBL.out.trans (HBN.out.mono HBL.out.size)).trans (HB8.out.mono (HBL.out.trans (HBN.out.mono HBL.out.size)).size))⟩
          case measure => simp only [intOf]; omega
        · have hji : ¬ (j : Int) < 5 := by omega
          clear HROW
          go_wp2_with (first
            | (go_at_call 23; refine (framAwake _).mono ?_; rintro e w9 ⟨rfl, hb9⟩; have HB9 := Lib.hid hb9; clear hb9)
            | fail)
          go_ret
          have h1 := HBE.out.trans (HBL.out.mono HBE.out.size)
          exact ⟨rfl, h1.trans (HB9.out.mono h1.size)⟩
end Go.Proofs.Ytlfkgpllleogoaa

