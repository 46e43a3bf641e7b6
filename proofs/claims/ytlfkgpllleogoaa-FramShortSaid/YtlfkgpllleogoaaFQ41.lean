/- FramShortWalk -/
import Derived.Test.YtlfkgpllleogoaaFQ01
import Derived.Test.YtlfkgpllleogoaaFQ37
import Derived.Test.YtlfkgpllleogoaaFQ40
namespace Go.Proofs.Ytlfkgpllleogoaa
open Go.RowKit
set_option linter.unusedVariables false
inductive KF where
  | eq (u : Value)
  | row (L : List Nat)
  | any
def VF (ks : List KF) (i : Nat) (v : Value) (w : World) : Prop := match ks[i]? with
  | some (.eq u) => v = u
  | some (.row L) => ∃ A c, v = .slice A L.length c ∧ Rd w w.heap.size A L.length (bv L) ∧ L.length ≤ c
  | _ => True
theorem VF.ext (ks : List KF) (i : Nat) (v : Value) (w w' : World) (h : VF ks i v w) (he : Ext w w') : VF ks i v w' := by
  unfold VF at h ⊢
  cases hk : ks[i]? with
  | none => trivial
  | some k =>
    rw [hk] at h
    cases k with
    | eq u => exact h
    | row L => obtain ⟨A, c, h1, h2, h3⟩ := h; exact ⟨A, c, h1, h2.keep he.2 he.1, h3⟩
    | any => trivial
theorem wanted_ofF {o : Oper} {y : Nat → Option Bool} {j : Nat} {b c r : Bool} (hg : o.guard = some (j, b)) (hy : y j = some c) (hr : (c == b) = r) : Region.wanted o y = r := by
  subst hr; unfold Region.wanted; rw [hg]; simp [hy]
theorem yielded_ofF {ops : Array Oper} {tmps : Array Value} {j s : Nat} {b : Bool} (ho : (ops[j]?).bind (·.dst) = some s) (ht : tmps[s]? = some (.bool b)) : yielded ops tmps j = some b := by
  unfold yielded; rw [ho, Option.bind_some, ht]
theorem deps_ofF {md : Region.Mode} {ops : Array Oper} {deps : Nat → List Nat} (h : ((List.range ops.size).all fun i => (deps i).all fun j => Region.waitsFor md ops i j) = true) : ∀ i, i < ops.size → ∀ j ∈ deps i, Region.waitsFor md ops i j = true := by
  intro i hi j hj
  exact List.all_eq_true.1 (List.all_eq_true.1 h i (List.mem_range.2 hi)) j hj
theorem ev_tmpF {a : Act} {t : Nat} {v : Value} (h : a.eval (.tmp t) = v) : a.tmps[t]?.getD undef = v := by rw [← h]; simp [Act.eval]
theorem fr_more {n m : Int} {M : Mg} {L : List Nat} (h : FrOf n m M L) : Fr.opn (L ++ L) = none := by
  cases hL : L with
  | nil => have := h.len; rw [hL] at this; simp at this
  | cons x r =>
    have q := Fr.opn_more h.ok x r
    rw [h.wrap, hL] at q
    exact q
def dstS2 (i : Nat) : Nat := ([32, 33, 34, 35, 15, 16] : List Nat).getD i 0
def depsS2 (i : Nat) : List Nat := ([[], [0], [], [2], [1], [3]] : List (List Nat)).getD i []
def FrS2 (g1 g2 : Nat) (ax ay : GA) (X Y : Mg) (L1 L2 : List Nat) (a : Act) : Prop := a.eval (.tmp 13) = .pointer (some ⟨g1, 0, none⟩) ∧ a.eval (.tmp 14) = .pointer (some ⟨g2, 0, none⟩)
def kindsS2 (g1 g2 : Nat) (ax ay : GA) (X Y : Mg) (L1 L2 : List Nat) : List KF := [.eq (.agg (msgC ax X)), .row L1, .eq (.agg (msgC ay Y)), .row L2, .row L1, .row L2]
def frameS2 (g1 g2 : Nat) (ax ay : GA) (X Y : Mg) (L1 L2 : List Nat) (x0 x1 x2 x3 x4 x5 x6 x7 x8 x9 x10 x11 x12 x17 x18 x19 x20 x21 x22 x23 x24 x25 x26 x27 x28 x29 x30 x31 x36 x37 x38 x39 x40 x41 x42 x43 x44 x45 x46 x47 x48 x49 x50 x51 x52 x53 x54 x55 x56 x57 x58 x59 x60 x61 x62 x63 x64 x65 x66 x67 x68 x69 x70 x71 x72 x73 x74 x75 x76 x77 x78 x79 x80 x81 x82 x83 x84 x85 x86 x87 x88 x89 x90 x91 x92 x93 x94 x95 x96 x97 : Value) (U : Nat → Value) : Act := { tmps := List.toArray (x0 :: x1 :: x2 :: x3 :: x4 :: x5 :: x6 :: x7 :: x8 :: x9 :: x10 :: x11 :: x12 :: .pointer (some ⟨g1, 0, none⟩) :: .pointer (some ⟨g2, 0, none⟩) :: U 15 :: U 16 :: x17 :: x18 :: x19 :: x20 :: x21 :: x22 :: x23 :: x24 :: x25 :: x26 :: x27 :: x28 :: x29 :: x30 :: x31 :: U 32 :: U 33 :: U 34 :: U 35 :: x36 :: x37 :: x38 :: x39 :: x40 :: x41 :: x42 :: x43 :: x44 :: x45 :: x46 :: x47 :: x48 :: x49 :: x50 :: x51 :: x52 :: x53 :: x54 :: x55 :: x56 :: x57 :: x58 :: x59 :: x60 :: x61 :: x62 :: x63 :: x64 :: x65 :: x66 :: x67 :: x68 :: x69 :: x70 :: x71 :: x72 :: x73 :: x74 :: x75 :: x76 :: x77 :: x78 :: x79 :: x80 :: x81 :: x82 :: x83 :: x84 :: x85 :: x86 :: x87 :: x88 :: x89 :: x90 :: x91 :: x92 :: x93 :: x94 :: x95 :: x96 :: x97 :: []), defers := [] }
def dstS8 (i : Nat) : Nat := ([63, 64, 65, 66, 67, 68, 69, 70, 71, 72, 73, 74, 75, 76, 77, 78, 79, 80, 81, 82] : List Nat).getD i 0
def depsS8 (i : Nat) : List Nat := ([[], [0], [1], [2], [3, 2], [2, 4], [5], [6], [6, 7], [8], [9], [10, 9], [9], [12, 9], [11, 13, 9], [9], [9], [15, 16, 9], [14, 17, 9], [9, 18]] : List (List Nat)).getD i []
def FrS8 (g5 g6 : Nat) (au av : GA) (X Y : Mg) (A1 A2 : Option Addr) (c1 c2 : Nat) (L1 L2 : List Nat) (D : Bool) (a : Act) : Prop := a.eval (.tmp 15) = .slice A1 L1.length c1 ∧ a.eval (.tmp 16) = .slice A2 L2.length c2 ∧ a.eval (.tmp 17) = .pointer (some ⟨g5, 0, none⟩) ∧ a.eval (.tmp 18) = .bool true ∧ a.eval (.tmp 19) = .pointer (some ⟨g6, 0, none⟩) ∧ a.eval (.tmp 20) = .bool true ∧ a.eval (.tmp 22) = .bool false
def kindsS8 (g5 g6 : Nat) (au av : GA) (X Y : Mg) (A1 A2 : Option Addr) (c1 c2 : Nat) (L1 L2 : List Nat) (D : Bool) : List KF := [.eq (.bool true), .eq (.bool false), .eq (.bool false), .eq (.bool true), .eq (.bool false), .eq (.bool false), .eq (.bool false), .eq (.bool false), .eq (.bool false), .eq (.bool false), .eq (.slice A1 L1.length c1), .eq (.string (strB L1)), .eq (.slice A2 L2.length c2), .eq (.string (strB L2)), .eq (.bool D), .eq (.agg (msgC au X)), .eq (.agg (msgC av Y)), .eq (.bool D), .eq (.bool false), .eq (.bool false)]
def frameS8 (g5 g6 : Nat) (au av : GA) (X Y : Mg) (A1 A2 : Option Addr) (c1 c2 : Nat) (L1 L2 : List Nat) (D : Bool) (x0 x1 x2 x3 x4 x5 x6 x7 x8 x9 x10 x11 x12 x13 x14 x21 x23 x24 x25 x26 x27 x28 x29 x30 x31 x32 x33 x34 x35 x36 x37 x38 x39 x40 x41 x42 x43 x44 x45 x46 x47 x48 x49 x50 x51 x52 x53 x54 x55 x56 x57 x58 x59 x60 x61 x62 x83 x84 x85 x86 x87 x88 x89 x90 x91 x92 x93 x94 x95 x96 x97 : Value) (U : Nat → Value) : Act := { tmps := List.toArray (x0 :: x1 :: x2 :: x3 :: x4 :: x5 :: x6 :: x7 :: x8 :: x9 :: x10 :: x11 :: x12 :: x13 :: x14 :: .slice A1 L1.length c1 :: .slice A2 L2.length c2 :: .pointer (some ⟨g5, 0, none⟩) :: .bool true :: .pointer (some ⟨g6, 0, none⟩) :: .bool true :: x21 :: .bool false :: x23 :: x24 :: x25 :: x26 :: x27 :: x28 :: x29 :: x30 :: x31 :: x32 :: x33 :: x34 :: x35 :: x36 :: x37 :: x38 :: x39 :: x40 :: x41 :: x42 :: x43 :: x44 :: x45 :: x46 :: x47 :: x48 :: x49 :: x50 :: x51 :: x52 :: x53 :: x54 :: x55 :: x56 :: x57 :: x58 :: x59 :: x60 :: x61 :: x62 :: U 63 :: U 64 :: U 65 :: U 66 :: U 67 :: U 68 :: U 69 :: U 70 :: U 71 :: U 72 :: U 73 :: U 74 :: U 75 :: U 76 :: U 77 :: U 78 :: U 79 :: U 80 :: U 81 :: U 82 :: x83 :: x84 :: x85 :: x86 :: x87 :: x88 :: x89 :: x90 :: x91 :: x92 :: x93 :: x94 :: x95 :: x96 :: x97 :: []), defers := [] }
set_option maxHeartbeats 8000000 in
set_option maxRecDepth 100000 in
theorem framShort_raw (n m p q at_ by_ : Int) (w : World) : Calls Try.prog 4 #[.int .i64 n, .int .i64 m, .int .i64 p, .int .i64 q, .int .i64 at_, .int .u8 by_] w fun e w' => e = .returned (.bool true) ∧ Below w.heap.size w w' := by
  obtain ⟨X, L1, hF1⟩ := frOf n m
  obtain ⟨Y, L2, hF2⟩ := frOf p q
  have F1 := Lib.hid hF1
  have F2 := Lib.hid hF2
  have C1 := Lib.hid hF1.msg
  have C2 := Lib.hid hF2.msg
  have n1 : ¬ (L1.length : Int) < 5 := by have := hF1.len; omega
  have n2 : ¬ (L2.length : Int) < 5 := by have := hF2.len; omega
  have N1 := Lib.hid n1
  have N2 := Lib.hid n2
  clear hF1 hF2 n1 n2
  go_enter Try.func4, Try.ntmps4
  go_upto_region 2 with (first
    | (go_at_call 14; refine (C1.out _).mono ?_; rintro e1 w1 ⟨ax, rfl, hrx, hb1⟩; have HX := Lib.hid hrx; have HB1 := Lib.hid hb1; clear hrx hb1 C1)
    | (go_at_call 14; refine (C2.out _).mono ?_; rintro e2 w2 ⟨ay, rfl, hry, hb2⟩
       have HX := Lib.hid (HX.out.below' hb2)
       have HY := Lib.hid hry
       have HB2 := Lib.hid (HB1.out.trans (hb2.mono HB1.out.size))
       have Z5 : Hid (Blk ((w2.alloc (.cells #[.int .i64 0, .int .i64 0, .int .i64 0, .int .i64 0, .int .i64 0, .int .i64 0, .bool false, .int .i64 0, .int .i64 0, .int .i64 0, .int .i64 0, .slice none 0 0, .int .i64 0, .int .i64 0, .slice none 0 0, .slice none 0 0, .int .i64 0, .int .i64 0, .int .i64 0, .int .i64 0, .int .i64 0, .slice none 0 0, .slice none 0 0, .slice none 0 0] 29)).alloc (.cells #[.int .i64 0, .int .i64 0, .int .i64 0, .int .i64 0, .int .i64 0, .int .i64 0, .bool false, .int .i64 0, .int .i64 0, .int .i64 0, .int .i64 0, .slice none 0 0, .int .i64 0, .int .i64 0, .slice none 0 0, .slice none 0 0, .int .i64 0, .int .i64 0, .int .i64 0, .int .i64 0, .int .i64 0, .slice none 0 0, .slice none 0 0, .slice none 0 0] 29)) w2.heap.size 29 #[.int .i64 0, .int .i64 0, .int .i64 0, .int .i64 0, .int .i64 0, .int .i64 0, .bool false, .int .i64 0, .int .i64 0, .int .i64 0, .int .i64 0, .slice none 0 0, .int .i64 0, .int .i64 0, .slice none 0 0, .slice none 0 0, .int .i64 0, .int .i64 0, .int .i64 0, .int .i64 0, .int .i64 0, .slice none 0 0, .slice none 0 0, .slice none 0 0]) := Lib.hid ((Blk.new _ _ _).alloc _)
       have Z6 : Hid (Blk (((w2.alloc (.cells #[.int .i64 0, .int .i64 0, .int .i64 0, .int .i64 0, .int .i64 0, .int .i64 0, .bool false, .int .i64 0, .int .i64 0, .int .i64 0, .int .i64 0, .slice none 0 0, .int .i64 0, .int .i64 0, .slice none 0 0, .slice none 0 0, .int .i64 0, .int .i64 0, .int .i64 0, .int .i64 0, .int .i64 0, .slice none 0 0, .slice none 0 0, .slice none 0 0] 29)).alloc (.cells #[.int .i64 0, .int .i64 0, .int .i64 0, .int .i64 0, .int .i64 0, .int .i64 0, .bool false, .int .i64 0, .int .i64 0, .int .i64 0, .int .i64 0, .slice none 0 0, .int .i64 0, .int .i64 0, .slice none 0 0, .slice none 0 0, .int .i64 0, .int .i64 0, .int .i64 0, .int .i64 0, .int .i64 0, .slice none 0 0, .slice none 0 0, .slice none 0 0] 29)).setRow w2.heap.size #[.int .i64 X.kind, .int .i64 X.frm, .int .i64 X.dst, .int .i64 X.view, .int .i64 X.inst, .int .i64 X.len, .bool X.has, .int .i64 X.mem, .int .i64 X.src, .int .i64 X.pos, .int .i64 X.tot, .slice ax.Ad X.data.length ax.cd, .int .i64 X.hop, .int .i64 X.seq, .slice ax.Ah X.hav.length ax.ch, .slice ax.An X.nee.length ax.cn, .int .i64 X.idx, .int .i64 X.ent.s, .int .i64 X.ent.q, .int .i64 X.ent.c.kind, .int .i64 X.ent.c.who, .slice ax.c.Ak X.ent.c.key.length ax.c.ck, .slice ax.c.Av X.ent.c.val.length ax.c.cv, .slice ax.c.Ao X.ent.c.old.length ax.c.co]) (w2.heap.size + 1) 29 #[.int .i64 0, .int .i64 0, .int .i64 0, .int .i64 0, .int .i64 0, .int .i64 0, .bool false, .int .i64 0, .int .i64 0, .int .i64 0, .int .i64 0, .slice none 0 0, .int .i64 0, .int .i64 0, .slice none 0 0, .slice none 0 0, .int .i64 0, .int .i64 0, .int .i64 0, .int .i64 0, .int .i64 0, .slice none 0 0, .slice none 0 0, .slice none 0 0]) := Lib.hid (by
         have q := Blk.new (w2.alloc (.cells #[.int .i64 0, .int .i64 0, .int .i64 0, .int .i64 0, .int .i64 0, .int .i64 0, .bool false, .int .i64 0, .int .i64 0, .int .i64 0, .int .i64 0, .slice none 0 0, .int .i64 0, .int .i64 0, .slice none 0 0, .slice none 0 0, .int .i64 0, .int .i64 0, .int .i64 0, .int .i64 0, .int .i64 0, .slice none 0 0, .slice none 0 0, .slice none 0 0] 29)) 29 #[.int .i64 0, .int .i64 0, .int .i64 0, .int .i64 0, .int .i64 0, .int .i64 0, .bool false, .int .i64 0, .int .i64 0, .int .i64 0, .int .i64 0, .slice none 0 0, .int .i64 0, .int .i64 0, .slice none 0 0, .slice none 0 0, .int .i64 0, .int .i64 0, .int .i64 0, .int .i64 0, .int .i64 0, .slice none 0 0, .slice none 0 0, .slice none 0 0]
         rw [World.size_alloc] at q
         exact q.row_other (by omega) _)
       clear hry hb2 C2)
    | (refine wpList_store_row rfl 29 (.tmp 13) (.tmp 28) rfl w2.heap.size #[.int .i64 X.kind, .int .i64 X.frm, .int .i64 X.dst, .int .i64 X.view, .int .i64 X.inst, .int .i64 X.len, .bool X.has, .int .i64 X.mem, .int .i64 X.src, .int .i64 X.pos, .int .i64 X.tot, .slice ax.Ad X.data.length ax.cd, .int .i64 X.hop, .int .i64 X.seq, .slice ax.Ah X.hav.length ax.ch, .slice ax.An X.nee.length ax.cn, .int .i64 X.idx, .int .i64 X.ent.s, .int .i64 X.ent.q, .int .i64 X.ent.c.kind, .int .i64 X.ent.c.who, .slice ax.c.Ak X.ent.c.key.length ax.c.ck, .slice ax.c.Av X.ent.c.val.length ax.c.cv, .slice ax.c.Ao X.ent.c.old.length ax.c.co] rfl rfl 29 #[.int .i64 0, .int .i64 0, .int .i64 0, .int .i64 0, .int .i64 0, .int .i64 0, .bool false, .int .i64 0, .int .i64 0, .int .i64 0, .int .i64 0, .slice none 0 0, .int .i64 0, .int .i64 0, .slice none 0 0, .slice none 0 0, .int .i64 0, .int .i64 0, .int .i64 0, .int .i64 0, .int .i64 0, .slice none 0 0, .slice none 0 0, .slice none 0 0] Z5.out (by kernel_rfl) rfl (by kernel_rfl) ?_)
    | (refine wpList_store_row rfl 29 (.tmp 14) (.tmp 31) rfl (w2.heap.size + 1) #[.int .i64 Y.kind, .int .i64 Y.frm, .int .i64 Y.dst, .int .i64 Y.view, .int .i64 Y.inst, .int .i64 Y.len, .bool Y.has, .int .i64 Y.mem, .int .i64 Y.src, .int .i64 Y.pos, .int .i64 Y.tot, .slice ay.Ad Y.data.length ay.cd, .int .i64 Y.hop, .int .i64 Y.seq, .slice ay.Ah Y.hav.length ay.ch, .slice ay.An Y.nee.length ay.cn, .int .i64 Y.idx, .int .i64 Y.ent.s, .int .i64 Y.ent.q, .int .i64 Y.ent.c.kind, .int .i64 Y.ent.c.who, .slice ay.c.Ak Y.ent.c.key.length ay.c.ck, .slice ay.c.Av Y.ent.c.val.length ay.c.cv, .slice ay.c.Ao Y.ent.c.old.length ay.c.co] rfl rfl 29 #[.int .i64 0, .int .i64 0, .int .i64 0, .int .i64 0, .int .i64 0, .int .i64 0, .bool false, .int .i64 0, .int .i64 0, .int .i64 0, .int .i64 0, .slice none 0 0, .int .i64 0, .int .i64 0, .slice none 0 0, .slice none 0 0, .int .i64 0, .int .i64 0, .int .i64 0, .int .i64 0, .int .i64 0, .slice none 0 0, .slice none 0 0, .slice none 0 0] Z6.out (by kernel_rfl) rfl (by kernel_rfl) ?_)
    | fail)
  have b23 : Below w2.heap.size w2 ((((w2.alloc (.cells #[.int .i64 0, .int .i64 0, .int .i64 0, .int .i64 0, .int .i64 0, .int .i64 0, .bool false, .int .i64 0, .int .i64 0, .int .i64 0, .int .i64 0, .slice none 0 0, .int .i64 0, .int .i64 0, .slice none 0 0, .slice none 0 0, .int .i64 0, .int .i64 0, .int .i64 0, .int .i64 0, .int .i64 0, .slice none 0 0, .slice none 0 0, .slice none 0 0] 29)).alloc (.cells #[.int .i64 0, .int .i64 0, .int .i64 0, .int .i64 0, .int .i64 0, .int .i64 0, .bool false, .int .i64 0, .int .i64 0, .int .i64 0, .int .i64 0, .slice none 0 0, .int .i64 0, .int .i64 0, .slice none 0 0, .slice none 0 0, .int .i64 0, .int .i64 0, .int .i64 0, .int .i64 0, .int .i64 0, .slice none 0 0, .slice none 0 0, .slice none 0 0] 29)).setRow w2.heap.size #[.int .i64 X.kind, .int .i64 X.frm, .int .i64 X.dst, .int .i64 X.view, .int .i64 X.inst, .int .i64 X.len, .bool X.has, .int .i64 X.mem, .int .i64 X.src, .int .i64 X.pos, .int .i64 X.tot, .slice ax.Ad X.data.length ax.cd, .int .i64 X.hop, .int .i64 X.seq, .slice ax.Ah X.hav.length ax.ch, .slice ax.An X.nee.length ax.cn, .int .i64 X.idx, .int .i64 X.ent.s, .int .i64 X.ent.q, .int .i64 X.ent.c.kind, .int .i64 X.ent.c.who, .slice ax.c.Ak X.ent.c.key.length ax.c.ck, .slice ax.c.Av X.ent.c.val.length ax.c.cv, .slice ax.c.Ao X.ent.c.old.length ax.c.co]).setRow (w2.heap.size + 1) #[.int .i64 Y.kind, .int .i64 Y.frm, .int .i64 Y.dst, .int .i64 Y.view, .int .i64 Y.inst, .int .i64 Y.len, .bool Y.has, .int .i64 Y.mem, .int .i64 Y.src, .int .i64 Y.pos, .int .i64 Y.tot, .slice ay.Ad Y.data.length ay.cd, .int .i64 Y.hop, .int .i64 Y.seq, .slice ay.Ah Y.hav.length ay.ch, .slice ay.An Y.nee.length ay.cn, .int .i64 Y.idx, .int .i64 Y.ent.s, .int .i64 Y.ent.q, .int .i64 Y.ent.c.kind, .int .i64 Y.ent.c.who, .slice ay.c.Ak Y.ent.c.key.length ay.c.ck, .slice ay.c.Av Y.ent.c.val.length ay.c.cv, .slice ay.c.Ao Y.ent.c.old.length ay.c.co]) := below_setRow (below_setRow (((Below.refl _ _).alloc (Nat.le_refl _) _).alloc (by rw [World.size_alloc]; omega) _) (Nat.le_refl _) _) (by omega) _
  have k5 : Blk ((((w2.alloc (.cells #[.int .i64 0, .int .i64 0, .int .i64 0, .int .i64 0, .int .i64 0, .int .i64 0, .bool false, .int .i64 0, .int .i64 0, .int .i64 0, .int .i64 0, .slice none 0 0, .int .i64 0, .int .i64 0, .slice none 0 0, .slice none 0 0, .int .i64 0, .int .i64 0, .int .i64 0, .int .i64 0, .int .i64 0, .slice none 0 0, .slice none 0 0, .slice none 0 0] 29)).alloc (.cells #[.int .i64 0, .int .i64 0, .int .i64 0, .int .i64 0, .int .i64 0, .int .i64 0, .bool false, .int .i64 0, .int .i64 0, .int .i64 0, .int .i64 0, .slice none 0 0, .int .i64 0, .int .i64 0, .slice none 0 0, .slice none 0 0, .int .i64 0, .int .i64 0, .int .i64 0, .int .i64 0, .int .i64 0, .slice none 0 0, .slice none 0 0, .slice none 0 0] 29)).setRow w2.heap.size #[.int .i64 X.kind, .int .i64 X.frm, .int .i64 X.dst, .int .i64 X.view, .int .i64 X.inst, .int .i64 X.len, .bool X.has, .int .i64 X.mem, .int .i64 X.src, .int .i64 X.pos, .int .i64 X.tot, .slice ax.Ad X.data.length ax.cd, .int .i64 X.hop, .int .i64 X.seq, .slice ax.Ah X.hav.length ax.ch, .slice ax.An X.nee.length ax.cn, .int .i64 X.idx, .int .i64 X.ent.s, .int .i64 X.ent.q, .int .i64 X.ent.c.kind, .int .i64 X.ent.c.who, .slice ax.c.Ak X.ent.c.key.length ax.c.ck, .slice ax.c.Av X.ent.c.val.length ax.c.cv, .slice ax.c.Ao X.ent.c.old.length ax.c.co]).setRow (w2.heap.size + 1) #[.int .i64 Y.kind, .int .i64 Y.frm, .int .i64 Y.dst, .int .i64 Y.view, .int .i64 Y.inst, .int .i64 Y.len, .bool Y.has, .int .i64 Y.mem, .int .i64 Y.src, .int .i64 Y.pos, .int .i64 Y.tot, .slice ay.Ad Y.data.length ay.cd, .int .i64 Y.hop, .int .i64 Y.seq, .slice ay.Ah Y.hav.length ay.ch, .slice ay.An Y.nee.length ay.cn, .int .i64 Y.idx, .int .i64 Y.ent.s, .int .i64 Y.ent.q, .int .i64 Y.ent.c.kind, .int .i64 Y.ent.c.who, .slice ay.c.Ak Y.ent.c.key.length ay.c.ck, .slice ay.c.Av Y.ent.c.val.length ay.c.cv, .slice ay.c.Ao Y.ent.c.old.length ay.c.co]) w2.heap.size 29 #[.int .i64 X.kind, .int .i64 X.frm, .int .i64 X.dst, .int .i64 X.view, .int .i64 X.inst, .int .i64 X.len, .bool X.has, .int .i64 X.mem, .int .i64 X.src, .int .i64 X.pos, .int .i64 X.tot, .slice ax.Ad X.data.length ax.cd, .int .i64 X.hop, .int .i64 X.seq, .slice ax.Ah X.hav.length ax.ch, .slice ax.An X.nee.length ax.cn, .int .i64 X.idx, .int .i64 X.ent.s, .int .i64 X.ent.q, .int .i64 X.ent.c.kind, .int .i64 X.ent.c.who, .slice ax.c.Ak X.ent.c.key.length ax.c.ck, .slice ax.c.Av X.ent.c.val.length ax.c.cv, .slice ax.c.Ao X.ent.c.old.length ax.c.co] := (Z5.out.row _).row_other (by omega) _
  have k6 : Blk ((((w2.alloc (.cells #[.int .i64 0, .int .i64 0, .int .i64 0, .int .i64 0, .int .i64 0, .int .i64 0, .bool false, .int .i64 0, .int .i64 0, .int .i64 0, .int .i64 0, .slice none 0 0, .int .i64 0, .int .i64 0, .slice none 0 0, .slice none 0 0, .int .i64 0, .int .i64 0, .int .i64 0, .int .i64 0, .int .i64 0, .slice none 0 0, .slice none 0 0, .slice none 0 0] 29)).alloc (.cells #[.int .i64 0, .int .i64 0, .int .i64 0, .int .i64 0, .int .i64 0, .int .i64 0, .bool false, .int .i64 0, .int .i64 0, .int .i64 0, .int .i64 0, .slice none 0 0, .int .i64 0, .int .i64 0, .slice none 0 0, .slice none 0 0, .int .i64 0, .int .i64 0, .int .i64 0, .int .i64 0, .int .i64 0, .slice none 0 0, .slice none 0 0, .slice none 0 0] 29)).setRow w2.heap.size #[.int .i64 X.kind, .int .i64 X.frm, .int .i64 X.dst, .int .i64 X.view, .int .i64 X.inst, .int .i64 X.len, .bool X.has, .int .i64 X.mem, .int .i64 X.src, .int .i64 X.pos, .int .i64 X.tot, .slice ax.Ad X.data.length ax.cd, .int .i64 X.hop, .int .i64 X.seq, .slice ax.Ah X.hav.length ax.ch, .slice ax.An X.nee.length ax.cn, .int .i64 X.idx, .int .i64 X.ent.s, .int .i64 X.ent.q, .int .i64 X.ent.c.kind, .int .i64 X.ent.c.who, .slice ax.c.Ak X.ent.c.key.length ax.c.ck, .slice ax.c.Av X.ent.c.val.length ax.c.cv, .slice ax.c.Ao X.ent.c.old.length ax.c.co]).setRow (w2.heap.size + 1) #[.int .i64 Y.kind, .int .i64 Y.frm, .int .i64 Y.dst, .int .i64 Y.view, .int .i64 Y.inst, .int .i64 Y.len, .bool Y.has, .int .i64 Y.mem, .int .i64 Y.src, .int .i64 Y.pos, .int .i64 Y.tot, .slice ay.Ad Y.data.length ay.cd, .int .i64 Y.hop, .int .i64 Y.seq, .slice ay.Ah Y.hav.length ay.ch, .slice ay.An Y.nee.length ay.cn, .int .i64 Y.idx, .int .i64 Y.ent.s, .int .i64 Y.ent.q, .int .i64 Y.ent.c.kind, .int .i64 Y.ent.c.who, .slice ay.c.Ak Y.ent.c.key.length ay.c.ck, .slice ay.c.Av Y.ent.c.val.length ay.c.cv, .slice ay.c.Ao Y.ent.c.old.length ay.c.co]) (w2.heap.size + 1) 29 #[.int .i64 Y.kind, .int .i64 Y.frm, .int .i64 Y.dst, .int .i64 Y.view, .int .i64 Y.inst, .int .i64 Y.len, .bool Y.has, .int .i64 Y.mem, .int .i64 Y.src, .int .i64 Y.pos, .int .i64 Y.tot, .slice ay.Ad Y.data.length ay.cd, .int .i64 Y.hop, .int .i64 Y.seq, .slice ay.Ah Y.hav.length ay.ch, .slice ay.An Y.nee.length ay.cn, .int .i64 Y.idx, .int .i64 Y.ent.s, .int .i64 Y.ent.q, .int .i64 Y.ent.c.kind, .int .i64 Y.ent.c.who, .slice ay.c.Ak Y.ent.c.key.length ay.c.ck, .slice ay.c.Av Y.ent.c.val.length ay.c.cv, .slice ay.c.Ao Y.ent.c.old.length ay.c.co] := Z6.out.row _
  generalize ((((w2.alloc (.cells #[.int .i64 0, .int .i64 0, .int .i64 0, .int .i64 0, .int .i64 0, .int .i64 0, .bool false, .int .i64 0, .int .i64 0, .int .i64 0, .int .i64 0, .slice none 0 0, .int .i64 0, .int .i64 0, .slice none 0 0, .slice none 0 0, .int .i64 0, .int .i64 0, .int .i64 0, .int .i64 0, .int .i64 0, .slice none 0 0, .slice none 0 0, .slice none 0 0] 29)).alloc (.cells #[.int .i64 0, .int .i64 0, .int .i64 0, .int .i64 0, .int .i64 0, .int .i64 0, .bool false, .int .i64 0, .int .i64 0, .int .i64 0, .int .i64 0, .slice none 0 0, .int .i64 0, .int .i64 0, .slice none 0 0, .slice none 0 0, .int .i64 0, .int .i64 0, .int .i64 0, .int .i64 0, .int .i64 0, .slice none 0 0, .slice none 0 0, .slice none 0 0] 29)).setRow w2.heap.size #[.int .i64 X.kind, .int .i64 X.frm, .int .i64 X.dst, .int .i64 X.view, .int .i64 X.inst, .int .i64 X.len, .bool X.has, .int .i64 X.mem, .int .i64 X.src, .int .i64 X.pos, .int .i64 X.tot, .slice ax.Ad X.data.length ax.cd, .int .i64 X.hop, .int .i64 X.seq, .slice ax.Ah X.hav.length ax.ch, .slice ax.An X.nee.length ax.cn, .int .i64 X.idx, .int .i64 X.ent.s, .int .i64 X.ent.q, .int .i64 X.ent.c.kind, .int .i64 X.ent.c.who, .slice ax.c.Ak X.ent.c.key.length ax.c.ck, .slice ax.c.Av X.ent.c.val.length ax.c.cv, .slice ax.c.Ao X.ent.c.old.length ax.c.co]).setRow (w2.heap.size + 1) #[.int .i64 Y.kind, .int .i64 Y.frm, .int .i64 Y.dst, .int .i64 Y.view, .int .i64 Y.inst, .int .i64 Y.len, .bool Y.has, .int .i64 Y.mem, .int .i64 Y.src, .int .i64 Y.pos, .int .i64 Y.tot, .slice ay.Ad Y.data.length ay.cd, .int .i64 Y.hop, .int .i64 Y.seq, .slice ay.Ah Y.hav.length ay.ch, .slice ay.An Y.nee.length ay.cn, .int .i64 Y.idx, .int .i64 Y.ent.s, .int .i64 Y.ent.q, .int .i64 Y.ent.c.kind, .int .i64 Y.ent.c.who, .slice ay.c.Ak Y.ent.c.key.length ay.c.ck, .slice ay.c.Av Y.ent.c.val.length ay.c.cv, .slice ay.c.Ao Y.ent.c.old.length ay.c.co]) = w3 at b23 k5 k6 ⊢
  obtain ⟨g1, hg1⟩ : ∃ h5, w2.heap.size = h5 := ⟨_, rfl⟩
  have HX := Lib.hid (HX.out.below' b23)
  have HY := Lib.hid (HY.out.below' b23)
  have HB := Lib.hid (HB2.out.trans (b23.mono HB2.out.size))
  rw [hg1] at k5 k6 ⊢
  obtain ⟨g2, hg2⟩ : ∃ h5, g1 + 1 = h5 := ⟨_, rfl⟩
  rw [hg2] at k6 ⊢
  have HK1 : Hid (Blk w3 g1 29 (msgC ax X)) := Lib.hid k5
  have HK2 : Hid (Blk w3 g2 29 (msgC ay Y)) := Lib.hid k6
  clear b23 k5 k6 hg1 hg2 HB1 HB2 Z5 Z6
  have CW1 : Hid (∀ wx, Below w3.heap.size w3 wx → Calls Try.prog 21 #[msgV ax X] wx (GotIn wx wx L1)) := Lib.hid (fun wx hb => frwrap_is (a := ax) (m := X) F1.out.wrap F1.out.wide (HX.out.below hb) (Below.refl _ _))
  have CW2 : Hid (∀ wx, Below w3.heap.size w3 wx → Calls Try.prog 21 #[msgV ay Y] wx (GotIn wx wx L2)) := Lib.hid (fun wx hb => frwrap_is (a := ay) (m := Y) F2.out.wrap F2.out.wide (HY.out.below hb) (Below.refl _ _))
  dsimp only [Act.put]
  go_cut [15, 16] from 32 to 35 (fun s15 s16 wx => ∃ (A1 A2 : Option Addr) (c1 c2 : Nat), s15 = .slice A1 L1.length c1 ∧ s16 = .slice A2 L2.length c2 ∧ Hid (Rd wx wx.heap.size A1 L1.length (bv L1)) ∧ Hid (Rd wx wx.heap.size A2 L2.length (bv L2)) ∧ L1.length ≤ c1 ∧ L2.length ≤ c2 ∧ Hid (Below w3.heap.size w3 wx))
  case first =>
    refine region_invG (U0 := fun _ => undef) (frameS2 g1 g2 ax ay X Y L1 L2 _ _ _ _ _ _ _ _ _ _ _ _ _ _ _ _ _ _ _ _ _ _ _ _ _ _ _ _ _ _ _ _ _ _ _ _ _ _ _ _ _ _ _ _ _ _ _ _ _ _ _ _ _ _ _ _ _ _ _ _ _ _ _ _ _ _ _ _ _ _ _ _ _ _ _ _ _ _ _ _ _ _ _ _ _ _ _ _ _ _) dstS2 depsS2 (fun _ => true) (VF (kindsS2 g1 g2 ax ay X Y L1 L2)) (FrS2 g1 g2 ax ay X Y L1 L2) ?hm ?hb ?inj ?dst ?deps ?want ?put ?ev ?fr (VF.ext _) (Below.refl _ _) ?hok ?done
    case hok =>
      refine all_ops (AllFrom.cons ?s0 (AllFrom.cons ?s1 (AllFrom.cons ?s2 (AllFrom.cons ?s3 (AllFrom.cons ?s4 (AllFrom.cons ?s5 AllFrom.nil))))))
      case s0 =>
        intro a w1 hF hB hdep K hK
        rw [if_pos rfl]
        refine wp_load_row 29 (.tmp 13) rfl g1 hF.1 29 (msgC ax X) (0, 0) _ (HK1.out.below hB) Try.underlying29 rfl (by kernel_rfl) ?_
        exact hK.out _ _ (Ext.refl _) hB rfl
      case s1 =>
        intro a w1 hF hB hdep K hK
        rw [if_pos rfl]
        have e0 : a.tmps[32]?.getD undef = msgV ax X := ev_tmpF (show a.eval (.tmp 32) = msgV ax X from hdep 0 (by decide))
        go_simp
        go_at_call 21
        refine (CW1.out _ hB).mono ?_
        rintro e w2 ⟨A9, c9, rfl, ho, hB9, hb⟩
        go_simp
        exact hK.out _ _ (Ext.of_below hb) (hB.trans (hb.mono hB.size)) ⟨A9, c9, rfl, Rd.own_ ho, (own_cap ho).1⟩
      case s2 =>
        intro a w1 hF hB hdep K hK
        rw [if_pos rfl]
        refine wp_load_row 29 (.tmp 14) rfl g2 hF.2 29 (msgC ay Y) (0, 0) _ (HK2.out.below hB) Try.underlying29 rfl (by kernel_rfl) ?_
        exact hK.out _ _ (Ext.refl _) hB rfl
      case s3 =>
        intro a w1 hF hB hdep K hK
        rw [if_pos rfl]
        have e0 : a.tmps[34]?.getD undef = msgV ay Y := ev_tmpF (show a.eval (.tmp 34) = msgV ay Y from hdep 2 (by decide))
        go_simp
        go_at_call 21
        refine (CW2.out _ hB).mono ?_
        rintro e w2 ⟨A9, c9, rfl, ho, hB9, hb⟩
        go_simp
        exact hK.out _ _ (Ext.of_below hb) (hB.trans (hb.mono hB.size)) ⟨A9, c9, rfl, Rd.own_ ho, (own_cap ho).1⟩
      case s4 =>
        intro a w1 hF hB hdep K hK
        rw [if_pos rfl]
        obtain ⟨A9, c9, e1, hr, hc⟩ : ∃ A9 c9, a.eval (.tmp 33) = .slice A9 L1.length c9 ∧ Rd w1 w1.heap.size A9 L1.length (bv L1) ∧ L1.length ≤ c9 := hdep 1 (by decide)
        have e1 := ev_tmpF e1
        go_simp
        exact hK.out _ _ (Ext.refl _) hB ⟨A9, c9, rfl, hr, hc⟩
      case s5 =>
        intro a w1 hF hB hdep K hK
        rw [if_pos rfl]
        obtain ⟨A9, c9, e1, hr, hc⟩ : ∃ A9 c9, a.eval (.tmp 35) = .slice A9 L2.length c9 ∧ Rd w1 w1.heap.size A9 L2.length (bv L2) ∧ L2.length ≤ c9 := hdep 3 (by decide)
        have e1 := ev_tmpF e1
        go_simp
        exact hK.out _ _ (Ext.refl _) hB ⟨A9, c9, rfl, hr, hc⟩
    case hm => kernel_rfl
    case hb => kernel_rfl
    case inj =>
      intro i j hi hj h
      have h1 : ((List.range 6).all fun i => (List.range 6).all fun j => !(dstS2 i == dstS2 j) || (i == j)) = true := by kernel_rfl
      have h2 := List.all_eq_true.1 (List.all_eq_true.1 h1 i (List.mem_range.2 hi)) j (List.mem_range.2 hj)
      simpa [h] using h2
    case dst => exact all_ops (AllFrom.cons rfl (AllFrom.cons rfl (AllFrom.cons rfl (AllFrom.cons rfl (AllFrom.cons rfl (AllFrom.cons rfl AllFrom.nil))))))
    case deps =>
      intro i hi j hj
      refine deps_ofF (deps := depsS2) ?_ i hi j hj
      kernel_rfl
    case want => exact all_ops (AllFrom.cons (fun U w hd => rfl) (AllFrom.cons (fun U w hd => rfl) (AllFrom.cons (fun U w hd => rfl) (AllFrom.cons (fun U w hd => rfl) (AllFrom.cons (fun U w hd => rfl) (AllFrom.cons (fun U w hd => rfl) AllFrom.nil))))))
    case put => exact all_ops (AllFrom.cons (fun _ _ => by kernel_rfl) (AllFrom.cons (fun _ _ => by kernel_rfl) (AllFrom.cons (fun _ _ => by kernel_rfl) (AllFrom.cons (fun _ _ => by kernel_rfl) (AllFrom.cons (fun _ _ => by kernel_rfl) (AllFrom.cons (fun _ _ => by kernel_rfl) AllFrom.nil))))))
    case ev => exact all_ops (AllFrom.cons (fun _ => by kernel_rfl) (AllFrom.cons (fun _ => by kernel_rfl) (AllFrom.cons (fun _ => by kernel_rfl) (AllFrom.cons (fun _ => by kernel_rfl) (AllFrom.cons (fun _ => by kernel_rfl) (AllFrom.cons (fun _ => by kernel_rfl) AllFrom.nil))))))
    case fr => exact fun U => ⟨by kernel_rfl, by kernel_rfl⟩
    case done =>
      intro U w' hB hV
      obtain ⟨A1, c1, e1, hr1, hc1⟩ : ∃ A c, U 15 = .slice A L1.length c ∧ Rd w' w'.heap.size A L1.length (bv L1) ∧ L1.length ≤ c := hV 4 (by decide)
      obtain ⟨A2, c2, e2, hr2, hc2⟩ : ∃ A c, U 16 = .slice A L2.length c ∧ Rd w' w'.heap.size A L2.length (bv L2) ∧ L2.length ≤ c := hV 5 (by decide)
      unfold frameS2
      rw [e1, e2]
      have HB9 := Lib.hid hB
      have HR1 := Lib.hid hr1
      have HR2 := Lib.hid hr2
      clear hV e1 e2 hB hr1 hr2
      go_wp2_with fail
      go_meet
      exact ⟨A1, A2, c1, c2, rfl, rfl, HR1, HR2, hc1, hc2, HB9⟩
  case rest =>
    obtain ⟨A1, A2, c1, c2, rfl, rfl, HR1, HR2, hc1, hc2, HB34⟩ := hcut
    rename World => w4
    have HB := Lib.hid (HB.out.trans (HB34.out.mono HB.out.size))
    have HC1 := Lib.hid hc1
    have HC2 := Lib.hid hc2
    clear HB34 HX HY HK1 HK2 CW1 CW2 hc1 hc2
    have n1 := N1.out
    have n2 := N2.out
    go_upto_region 5 with fail
    clear n1 n2
    have CO1 : Hid (Calls Try.prog 22 #[.slice A1 L1.length c1] w4 (GotG w4 w4 (some X))) := Lib.hid (fropen_is F1.out.opn (by have := F1.out.len; omega) F1.out.lt HC1.out HR1.out (Below.refl _ _))
    go_upto_region 6 with (first
      | (go_at_call 22; refine CO1.out.mono ?_; rintro e w5 ⟨au, he, hou, hBu, hbu⟩
         have he2 : e = .returned (.tuple #[.agg #[.int .i64 X.kind, .int .i64 X.frm, .int .i64 X.dst, .int .i64 X.view, .int .i64 X.inst, .int .i64 X.len, .bool X.has, .int .i64 X.mem, .int .i64 X.src, .int .i64 X.pos, .int .i64 X.tot, .slice au.Ad X.data.length au.cd, .int .i64 X.hop, .int .i64 X.seq, .slice au.Ah X.hav.length au.ch, .slice au.An X.nee.length au.cn, .int .i64 X.idx, .int .i64 X.ent.s, .int .i64 X.ent.q, .int .i64 X.ent.c.kind, .int .i64 X.ent.c.who, .slice au.c.Ak X.ent.c.key.length au.c.ck, .slice au.c.Av X.ent.c.val.length au.c.cv, .slice au.c.Ao X.ent.c.old.length au.c.co], .bool true]) := he
         clear he
         subst he2
         have hou2 : OwnG w4 w5 au X := hou
         have HOU := Lib.hid hou2
         have HB45 := Lib.hid hBu
         have HZ5 := Lib.hid (Blk.new w5 29 #[.int .i64 0, .int .i64 0, .int .i64 0, .int .i64 0, .int .i64 0, .int .i64 0, .bool false, .int .i64 0, .int .i64 0, .int .i64 0, .int .i64 0, .slice none 0 0, .int .i64 0, .int .i64 0, .slice none 0 0, .slice none 0 0, .int .i64 0, .int .i64 0, .int .i64 0, .int .i64 0, .int .i64 0, .slice none 0 0, .slice none 0 0, .slice none 0 0])
         clear hou hou2 hBu hbu CO1)
      | (refine wpList_store_row rfl 29 (.tmp 17) (.tmp 47) rfl w5.heap.size #[.int .i64 X.kind, .int .i64 X.frm, .int .i64 X.dst, .int .i64 X.view, .int .i64 X.inst, .int .i64 X.len, .bool X.has, .int .i64 X.mem, .int .i64 X.src, .int .i64 X.pos, .int .i64 X.tot, .slice au.Ad X.data.length au.cd, .int .i64 X.hop, .int .i64 X.seq, .slice au.Ah X.hav.length au.ch, .slice au.An X.nee.length au.cn, .int .i64 X.idx, .int .i64 X.ent.s, .int .i64 X.ent.q, .int .i64 X.ent.c.kind, .int .i64 X.ent.c.who, .slice au.c.Ak X.ent.c.key.length au.c.ck, .slice au.c.Av X.ent.c.val.length au.c.cv, .slice au.c.Ao X.ent.c.old.length au.c.co] rfl rfl 29 #[.int .i64 0, .int .i64 0, .int .i64 0, .int .i64 0, .int .i64 0, .int .i64 0, .bool false, .int .i64 0, .int .i64 0, .int .i64 0, .int .i64 0, .slice none 0 0, .int .i64 0, .int .i64 0, .slice none 0 0, .slice none 0 0, .int .i64 0, .int .i64 0, .int .i64 0, .int .i64 0, .int .i64 0, .slice none 0 0, .slice none 0 0, .slice none 0 0] HZ5.out (by kernel_rfl) rfl (by kernel_rfl) ?_)
      | fail)
    have b56 : Below w5.heap.size w5 ((w5.alloc (.cells #[.int .i64 0, .int .i64 0, .int .i64 0, .int .i64 0, .int .i64 0, .int .i64 0, .bool false, .int .i64 0, .int .i64 0, .int .i64 0, .int .i64 0, .slice none 0 0, .int .i64 0, .int .i64 0, .slice none 0 0, .slice none 0 0, .int .i64 0, .int .i64 0, .int .i64 0, .int .i64 0, .int .i64 0, .slice none 0 0, .slice none 0 0, .slice none 0 0] 29)).setRow w5.heap.size #[.int .i64 X.kind, .int .i64 X.frm, .int .i64 X.dst, .int .i64 X.view, .int .i64 X.inst, .int .i64 X.len, .bool X.has, .int .i64 X.mem, .int .i64 X.src, .int .i64 X.pos, .int .i64 X.tot, .slice au.Ad X.data.length au.cd, .int .i64 X.hop, .int .i64 X.seq, .slice au.Ah X.hav.length au.ch, .slice au.An X.nee.length au.cn, .int .i64 X.idx, .int .i64 X.ent.s, .int .i64 X.ent.q, .int .i64 X.ent.c.kind, .int .i64 X.ent.c.who, .slice au.c.Ak X.ent.c.key.length au.c.ck, .slice au.c.Av X.ent.c.val.length au.c.cv, .slice au.c.Ao X.ent.c.old.length au.c.co]) := below_setRow ((Below.refl _ _).alloc (Nat.le_refl _) _) (Nat.le_refl _) _
    have k5 := HZ5.out.row #[.int .i64 X.kind, .int .i64 X.frm, .int .i64 X.dst, .int .i64 X.view, .int .i64 X.inst, .int .i64 X.len, .bool X.has, .int .i64 X.mem, .int .i64 X.src, .int .i64 X.pos, .int .i64 X.tot, .slice au.Ad X.data.length au.cd, .int .i64 X.hop, .int .i64 X.seq, .slice au.Ah X.hav.length au.ch, .slice au.An X.nee.length au.cn, .int .i64 X.idx, .int .i64 X.ent.s, .int .i64 X.ent.q, .int .i64 X.ent.c.kind, .int .i64 X.ent.c.who, .slice au.c.Ak X.ent.c.key.length au.c.ck, .slice au.c.Av X.ent.c.val.length au.c.cv, .slice au.c.Ao X.ent.c.old.length au.c.co]
    obtain ⟨g5, hg5⟩ : ∃ h, w5.heap.size = h := ⟨_, rfl⟩
    generalize (w5.alloc (.cells #[.int .i64 0, .int .i64 0, .int .i64 0, .int .i64 0, .int .i64 0, .int .i64 0, .bool false, .int .i64 0, .int .i64 0, .int .i64 0, .int .i64 0, .slice none 0 0, .int .i64 0, .int .i64 0, .slice none 0 0, .slice none 0 0, .int .i64 0, .int .i64 0, .int .i64 0, .int .i64 0, .int .i64 0, .slice none 0 0, .slice none 0 0, .slice none 0 0] 29)).setRow w5.heap.size #[.int .i64 X.kind, .int .i64 X.frm, .int .i64 X.dst, .int .i64 X.view, .int .i64 X.inst, .int .i64 X.len, .bool X.has, .int .i64 X.mem, .int .i64 X.src, .int .i64 X.pos, .int .i64 X.tot, .slice au.Ad X.data.length au.cd, .int .i64 X.hop, .int .i64 X.seq, .slice au.Ah X.hav.length au.ch, .slice au.An X.nee.length au.cn, .int .i64 X.idx, .int .i64 X.ent.s, .int .i64 X.ent.q, .int .i64 X.ent.c.kind, .int .i64 X.ent.c.who, .slice au.c.Ak X.ent.c.key.length au.c.ck, .slice au.c.Av X.ent.c.val.length au.c.cv, .slice au.c.Ao X.ent.c.old.length au.c.co] = w6 at b56 k5 ⊢
    rw [hg5] at k5 ⊢
    have b46 : Below w4.heap.size w4 w6 := HB45.out.trans (b56.mono HB45.out.size)
    have HRU := Lib.hid (HOU.out.rd.below' b56)
    have HK5 : Hid (Blk w6 g5 29 (msgC au X)) := Lib.hid k5
    have HR1 := Lib.hid (HR1.out.below b46).fit
    have HR2 := Lib.hid (HR2.out.below b46).fit
    have HB := Lib.hid (HB.out.trans (b46.mono HB.out.size))
    clear b56 b46 k5 hg5 HOU HB45 HZ5
    have CO2 : Hid (Calls Try.prog 22 #[.slice A2 L2.length c2] w6 (GotG w6 w6 (some Y))) := Lib.hid (fropen_is F2.out.opn (by have := F2.out.len; omega) F2.out.lt HC2.out HR2.out (Below.refl _ _))
    go_upto_region 7 with (first
      | (go_at_call 22; refine CO2.out.mono ?_; rintro e w7 ⟨av, he, hov, hBv, hbv⟩
         have he2 : e = .returned (.tuple #[.agg #[.int .i64 Y.kind, .int .i64 Y.frm, .int .i64 Y.dst, .int .i64 Y.view, .int .i64 Y.inst, .int .i64 Y.len, .bool Y.has, .int .i64 Y.mem, .int .i64 Y.src, .int .i64 Y.pos, .int .i64 Y.tot, .slice av.Ad Y.data.length av.cd, .int .i64 Y.hop, .int .i64 Y.seq, .slice av.Ah Y.hav.length av.ch, .slice av.An Y.nee.length av.cn, .int .i64 Y.idx, .int .i64 Y.ent.s, .int .i64 Y.ent.q, .int .i64 Y.ent.c.kind, .int .i64 Y.ent.c.who, .slice av.c.Ak Y.ent.c.key.length av.c.ck, .slice av.c.Av Y.ent.c.val.length av.c.cv, .slice av.c.Ao Y.ent.c.old.length av.c.co], .bool true]) := he
         clear he
         subst he2
         have hov2 : OwnG w6 w7 av Y := hov
         have HOV := Lib.hid hov2
         have HB67 := Lib.hid hBv
         have HZ7 := Lib.hid (Blk.new w7 29 #[.int .i64 0, .int .i64 0, .int .i64 0, .int .i64 0, .int .i64 0, .int .i64 0, .bool false, .int .i64 0, .int .i64 0, .int .i64 0, .int .i64 0, .slice none 0 0, .int .i64 0, .int .i64 0, .slice none 0 0, .slice none 0 0, .int .i64 0, .int .i64 0, .int .i64 0, .int .i64 0, .int .i64 0, .slice none 0 0, .slice none 0 0, .slice none 0 0])
         clear hov hov2 hBv hbv CO2)
      | (refine wpList_store_row rfl 29 (.tmp 19) (.tmp 52) rfl w7.heap.size #[.int .i64 Y.kind, .int .i64 Y.frm, .int .i64 Y.dst, .int .i64 Y.view, .int .i64 Y.inst, .int .i64 Y.len, .bool Y.has, .int .i64 Y.mem, .int .i64 Y.src, .int .i64 Y.pos, .int .i64 Y.tot, .slice av.Ad Y.data.length av.cd, .int .i64 Y.hop, .int .i64 Y.seq, .slice av.Ah Y.hav.length av.ch, .slice av.An Y.nee.length av.cn, .int .i64 Y.idx, .int .i64 Y.ent.s, .int .i64 Y.ent.q, .int .i64 Y.ent.c.kind, .int .i64 Y.ent.c.who, .slice av.c.Ak Y.ent.c.key.length av.c.ck, .slice av.c.Av Y.ent.c.val.length av.c.cv, .slice av.c.Ao Y.ent.c.old.length av.c.co] rfl rfl 29 #[.int .i64 0, .int .i64 0, .int .i64 0, .int .i64 0, .int .i64 0, .int .i64 0, .bool false, .int .i64 0, .int .i64 0, .int .i64 0, .int .i64 0, .slice none 0 0, .int .i64 0, .int .i64 0, .slice none 0 0, .slice none 0 0, .int .i64 0, .int .i64 0, .int .i64 0, .int .i64 0, .int .i64 0, .slice none 0 0, .slice none 0 0, .slice none 0 0] HZ7.out (by kernel_rfl) rfl (by kernel_rfl) ?_)
      | fail)
    have b78 : Below w7.heap.size w7 ((w7.alloc (.cells #[.int .i64 0, .int .i64 0, .int .i64 0, .int .i64 0, .int .i64 0, .int .i64 0, .bool false, .int .i64 0, .int .i64 0, .int .i64 0, .int .i64 0, .slice none 0 0, .int .i64 0, .int .i64 0, .slice none 0 0, .slice none 0 0, .int .i64 0, .int .i64 0, .int .i64 0, .int .i64 0, .int .i64 0, .slice none 0 0, .slice none 0 0, .slice none 0 0] 29)).setRow w7.heap.size #[.int .i64 Y.kind, .int .i64 Y.frm, .int .i64 Y.dst, .int .i64 Y.view, .int .i64 Y.inst, .int .i64 Y.len, .bool Y.has, .int .i64 Y.mem, .int .i64 Y.src, .int .i64 Y.pos, .int .i64 Y.tot, .slice av.Ad Y.data.length av.cd, .int .i64 Y.hop, .int .i64 Y.seq, .slice av.Ah Y.hav.length av.ch, .slice av.An Y.nee.length av.cn, .int .i64 Y.idx, .int .i64 Y.ent.s, .int .i64 Y.ent.q, .int .i64 Y.ent.c.kind, .int .i64 Y.ent.c.who, .slice av.c.Ak Y.ent.c.key.length av.c.ck, .slice av.c.Av Y.ent.c.val.length av.c.cv, .slice av.c.Ao Y.ent.c.old.length av.c.co]) := below_setRow ((Below.refl _ _).alloc (Nat.le_refl _) _) (Nat.le_refl _) _
    have k6 := HZ7.out.row #[.int .i64 Y.kind, .int .i64 Y.frm, .int .i64 Y.dst, .int .i64 Y.view, .int .i64 Y.inst, .int .i64 Y.len, .bool Y.has, .int .i64 Y.mem, .int .i64 Y.src, .int .i64 Y.pos, .int .i64 Y.tot, .slice av.Ad Y.data.length av.cd, .int .i64 Y.hop, .int .i64 Y.seq, .slice av.Ah Y.hav.length av.ch, .slice av.An Y.nee.length av.cn, .int .i64 Y.idx, .int .i64 Y.ent.s, .int .i64 Y.ent.q, .int .i64 Y.ent.c.kind, .int .i64 Y.ent.c.who, .slice av.c.Ak Y.ent.c.key.length av.c.ck, .slice av.c.Av Y.ent.c.val.length av.c.cv, .slice av.c.Ao Y.ent.c.old.length av.c.co]
    obtain ⟨g6, hg6⟩ : ∃ h, w7.heap.size = h := ⟨_, rfl⟩
    generalize (w7.alloc (.cells #[.int .i64 0, .int .i64 0, .int .i64 0, .int .i64 0, .int .i64 0, .int .i64 0, .bool false, .int .i64 0, .int .i64 0, .int .i64 0, .int .i64 0, .slice none 0 0, .int .i64 0, .int .i64 0, .slice none 0 0, .slice none 0 0, .int .i64 0, .int .i64 0, .int .i64 0, .int .i64 0, .int .i64 0, .slice none 0 0, .slice none 0 0, .slice none 0 0] 29)).setRow w7.heap.size #[.int .i64 Y.kind, .int .i64 Y.frm, .int .i64 Y.dst, .int .i64 Y.view, .int .i64 Y.inst, .int .i64 Y.len, .bool Y.has, .int .i64 Y.mem, .int .i64 Y.src, .int .i64 Y.pos, .int .i64 Y.tot, .slice av.Ad Y.data.length av.cd, .int .i64 Y.hop, .int .i64 Y.seq, .slice av.Ah Y.hav.length av.ch, .slice av.An Y.nee.length av.cn, .int .i64 Y.idx, .int .i64 Y.ent.s, .int .i64 Y.ent.q, .int .i64 Y.ent.c.kind, .int .i64 Y.ent.c.who, .slice av.c.Ak Y.ent.c.key.length av.c.ck, .slice av.c.Av Y.ent.c.val.length av.c.cv, .slice av.c.Ao Y.ent.c.old.length av.c.co] = w8 at b78 k6 ⊢
    rw [hg6] at k6 ⊢
    have b68 : Below w6.heap.size w6 w8 := HB67.out.trans (b78.mono HB67.out.size)
    have HRV := Lib.hid (HOV.out.rd.below' b78)
    have HRU := Lib.hid (HRU.out.below' b68)
    have HK5 := Lib.hid (HK5.out.below b68)
    have HK6 : Hid (Blk w8 g6 29 (msgC av Y)) := Lib.hid k6
    have HR1 := Lib.hid (HR1.out.below b68).fit
    have HR2 := Lib.hid (HR2.out.below b68).fit
    have HB := Lib.hid (HB.out.trans (b68.mono HB.out.size))
    clear b78 b68 k6 hg6 HOV HB67 HZ7
    have hl1 := F1.out.len
    go_upto_region 8 with (first
      | (at_builtin
         refine wpList_append_bytes (W := w8) byteT (.tmp 55) (.tmp 56) rfl (by rfl) rfl (own_empty (Below.refl _ _) 5) rfl (HR1.out.alloc (Nat.le_refl _) _) (by omega) ((Below.refl _ _).alloc (Nat.le_refl _) _) ?_
         intro A3 c3 w9 hown3 hr3 hB3
         simp only [Nat.zero_add, List.nil_append] at hown3 hr3
         have HO3 := Lib.hid hown3
         have HB89 := Lib.hid hB3
         clear hown3 hr3 hB3)
      | (at_builtin
         refine wpList_append_bytes (W := w8) byteT (.tmp 57) (.tmp 58) rfl (by rfl) rfl HO3.out rfl (HR1.out.below HB89.out) (by omega) HB89.out ?_
         intro A4 c4 w10 hown4 hr4 hB4
         have HCO : Hid (Calls Try.prog 22 #[.slice A4 (L1.length + L1.length) c4] w10 (GotG w8 w10 none)) := Lib.hid (fropen_is (l := L1 ++ L1) (fr_more F1.out) (by rw [List.length_append]; omega) (fun x hx => by rcases List.mem_append.1 hx with h | h <;> exact F1.out.lt x h) (own_cap hown4).1 hr4 hB4)
         clear hown4 hr4 hB4)
      | (go_at_call 22; refine HCO.out.mono ?_; rintro e w11 ⟨aq, he, hoq, hBq, hbq⟩
         have he2 : e = .returned (.tuple #[.agg #[.int .i64 0, .int .i64 0, .int .i64 0, .int .i64 0, .int .i64 0, .int .i64 0, .bool false, .int .i64 0, .int .i64 0, .int .i64 0, .int .i64 0, .slice aq.Ad 0 aq.cd, .int .i64 0, .int .i64 0, .slice aq.Ah 0 aq.ch, .slice aq.An 0 aq.cn, .int .i64 0, .int .i64 0, .int .i64 0, .int .i64 0, .int .i64 0, .slice aq.c.Ak 0 aq.c.ck, .slice aq.c.Av 0 aq.c.cv, .slice aq.c.Ao 0 aq.c.co], .bool false]) := he
         clear he
         subst he2
         have HB811 := Lib.hid hBq
         have HZ11 := Lib.hid (Blk.new w11 29 #[.int .i64 0, .int .i64 0, .int .i64 0, .int .i64 0, .int .i64 0, .int .i64 0, .bool false, .int .i64 0, .int .i64 0, .int .i64 0, .int .i64 0, .slice none 0 0, .int .i64 0, .int .i64 0, .slice none 0 0, .slice none 0 0, .int .i64 0, .int .i64 0, .int .i64 0, .int .i64 0, .int .i64 0, .slice none 0 0, .slice none 0 0, .slice none 0 0])
         clear hoq hBq hbq HCO)
      | (refine wpList_store_row rfl 29 (.tmp 21) (.tmp 61) rfl w11.heap.size #[.int .i64 0, .int .i64 0, .int .i64 0, .int .i64 0, .int .i64 0, .int .i64 0, .bool false, .int .i64 0, .int .i64 0, .int .i64 0, .int .i64 0, .slice aq.Ad 0 aq.cd, .int .i64 0, .int .i64 0, .slice aq.Ah 0 aq.ch, .slice aq.An 0 aq.cn, .int .i64 0, .int .i64 0, .int .i64 0, .int .i64 0, .int .i64 0, .slice aq.c.Ak 0 aq.c.ck, .slice aq.c.Av 0 aq.c.cv, .slice aq.c.Ao 0 aq.c.co] rfl rfl 29 #[.int .i64 0, .int .i64 0, .int .i64 0, .int .i64 0, .int .i64 0, .int .i64 0, .bool false, .int .i64 0, .int .i64 0, .int .i64 0, .int .i64 0, .slice none 0 0, .int .i64 0, .int .i64 0, .slice none 0 0, .slice none 0 0, .int .i64 0, .int .i64 0, .int .i64 0, .int .i64 0, .int .i64 0, .slice none 0 0, .slice none 0 0, .slice none 0 0] HZ11.out (by kernel_rfl) rfl (by kernel_rfl) ?_)
      | fail)
    have b9 : Below w11.heap.size w11 ((w11.alloc (.cells #[.int .i64 0, .int .i64 0, .int .i64 0, .int .i64 0, .int .i64 0, .int .i64 0, .bool false, .int .i64 0, .int .i64 0, .int .i64 0, .int .i64 0, .slice none 0 0, .int .i64 0, .int .i64 0, .slice none 0 0, .slice none 0 0, .int .i64 0, .int .i64 0, .int .i64 0, .int .i64 0, .int .i64 0, .slice none 0 0, .slice none 0 0, .slice none 0 0] 29)).setRow w11.heap.size #[.int .i64 0, .int .i64 0, .int .i64 0, .int .i64 0, .int .i64 0, .int .i64 0, .bool false, .int .i64 0, .int .i64 0, .int .i64 0, .int .i64 0, .slice aq.Ad 0 aq.cd, .int .i64 0, .int .i64 0, .slice aq.Ah 0 aq.ch, .slice aq.An 0 aq.cn, .int .i64 0, .int .i64 0, .int .i64 0, .int .i64 0, .int .i64 0, .slice aq.c.Ak 0 aq.c.ck, .slice aq.c.Av 0 aq.c.cv, .slice aq.c.Ao 0 aq.c.co]) := below_setRow ((Below.refl _ _).alloc (Nat.le_refl _) _) (Nat.le_refl _) _
    generalize (w11.alloc (.cells #[.int .i64 0, .int .i64 0, .int .i64 0, .int .i64 0, .int .i64 0, .int .i64 0, .bool false, .int .i64 0, .int .i64 0, .int .i64 0, .int .i64 0, .slice none 0 0, .int .i64 0, .int .i64 0, .slice none 0 0, .slice none 0 0, .int .i64 0, .int .i64 0, .int .i64 0, .int .i64 0, .int .i64 0, .slice none 0 0, .slice none 0 0, .slice none 0 0] 29)).setRow w11.heap.size #[.int .i64 0, .int .i64 0, .int .i64 0, .int .i64 0, .int .i64 0, .int .i64 0, .bool false, .int .i64 0, .int .i64 0, .int .i64 0, .int .i64 0, .slice aq.Ad 0 aq.cd, .int .i64 0, .int .i64 0, .slice aq.Ah 0 aq.ch, .slice aq.An 0 aq.cn, .int .i64 0, .int .i64 0, .int .i64 0, .int .i64 0, .int .i64 0, .slice aq.c.Ak 0 aq.c.ck, .slice aq.c.Av 0 aq.c.cv, .slice aq.c.Ao 0 aq.c.co] = w12 at b9 ⊢
    have b812 : Below w8.heap.size w8 w12 := HB811.out.trans (b9.mono HB811.out.size)
    have HRV := Lib.hid (HRV.out.below' b812)
    have HRU := Lib.hid (HRU.out.below' b812)
    have HK5 := Lib.hid (HK5.out.below b812)
    have HK6 := Lib.hid (HK6.out.below b812)
    have HR1 := Lib.hid (HR1.out.below b812).fit
    have HR2 := Lib.hid (HR2.out.below b812).fit
    have HB := Lib.hid (HB.out.trans (b812.mono HB.out.size))
    clear b9 b812 HO3 HB89 HB811 HZ11
    obtain ⟨D, hD⟩ : ∃ D : Bool, decide (X = Y) = D := ⟨_, rfl⟩
    have SA : Hid (∀ wx, Below w12.heap.size w12 wx → Calls Try.prog 18 #[msgV au X, msgV av Y] wx fun e w' => e = .returned (.bool D) ∧ Below wx.heap.size wx w') := Lib.hid (fun wx hb => by
      rw [← hD]
      exact refSame11 (a := au) (m := X) (a' := av) (m' := Y) wx F1.out.wide F2.out.wide (HRU.out.below hb) (HRV.out.below hb))
    have hLD : decide (L1 = L2) = D := by
      rw [← hD]
      have h := Fr.wrap_inj F1.out.ok F2.out.ok F1.out.bare F2.out.bare
      rw [F1.out.wrap, F2.out.wrap] at h
      simp only [h]
    have HQ1 : Hid ((strB L1 == strB L2) = D) := Lib.hid (by rw [strB_eq F1.out.lt F2.out.lt, hLD])
    have HQ2 : Hid (((strB L1).toList == (strB L2).toList) = D) := Lib.hid (by rw [strL_eq F1.out.lt F2.out.lt, hLD])
    clear hD hLD
    go_cut [82] from 63 to 82 (fun s82 wx => s82 = .bool false ∧ Hid (Below w12.heap.size w12 wx))
    case first =>
      refine region_invG (U0 := fun _ => undef) (frameS8 g5 g6 au av X Y A1 A2 c1 c2 L1 L2 D _ _ _ _ _ _ _ _ _ _ _ _ _ _ _ _ _ _ _ _ _ _ _ _ _ _ _ _ _ _ _ _ _ _ _ _ _ _ _ _ _ _ _ _ _ _ _ _ _ _ _ _ _ _ _ _ _ _ _ _ _ _ _ _ _ _ _ _ _ _ _) dstS8 depsS8 (fun _ => true) (VF (kindsS8 g5 g6 au av X Y A1 A2 c1 c2 L1 L2 D)) (FrS8 g5 g6 au av X Y A1 A2 c1 c2 L1 L2 D) ?hm ?hb ?inj ?dst ?deps ?want ?put ?ev ?fr (VF.ext _) (Below.refl _ _) ?hok ?done
      case hok =>
        refine all_ops (AllFrom.cons ?s0 (AllFrom.cons ?s1 (AllFrom.cons ?s2 (AllFrom.cons ?s3 (AllFrom.cons ?s4 (AllFrom.cons ?s5 (AllFrom.cons ?s6 (AllFrom.cons ?s7 (AllFrom.cons ?s8 (AllFrom.cons ?s9 (AllFrom.cons ?s10 (AllFrom.cons ?s11 (AllFrom.cons ?s12 (AllFrom.cons ?s13 (AllFrom.cons ?s14 (AllFrom.cons ?s15 (AllFrom.cons ?s16 (AllFrom.cons ?s17 (AllFrom.cons ?s18 (AllFrom.cons ?s19 AllFrom.nil))))))))))))))))))))
        case s0 =>
          intro a w1 hF hB hdep K hK
          rw [if_pos rfl]
          have f18 : a.tmps[18]?.getD undef = .bool true := ev_tmpF hF.2.2.2.1
          go_simp
          exact hK.out _ _ (Ext.refl _) hB rfl
        case s1 =>
          intro a w1 hF hB hdep K hK
          rw [if_pos rfl]
          have e0 : a.tmps[63]?.getD undef = .bool true := ev_tmpF (show a.eval (.tmp 63) = .bool true from hdep 0 (by decide))
          go_simp
          exact hK.out _ _ (Ext.refl _) hB rfl
        case s2 =>
          intro a w1 hF hB hdep K hK
          rw [if_pos rfl]
          have e1 : a.tmps[64]?.getD undef = .bool false := ev_tmpF (show a.eval (.tmp 64) = .bool false from hdep 1 (by decide))
          go_simp
          exact hK.out _ _ (Ext.refl _) hB rfl
        case s3 =>
          intro a w1 hF hB hdep K hK
          rw [if_pos rfl]
          have f20 : a.tmps[20]?.getD undef = .bool true := ev_tmpF hF.2.2.2.2.2.1
          go_simp
          exact hK.out _ _ (Ext.refl _) hB rfl
        case s4 =>
          intro a w1 hF hB hdep K hK
          rw [if_pos rfl]
          have e3 : a.tmps[66]?.getD undef = .bool true := ev_tmpF (show a.eval (.tmp 66) = .bool true from hdep 3 (by decide))
          go_simp
          exact hK.out _ _ (Ext.refl _) hB rfl
        case s5 =>
          intro a w1 hF hB hdep K hK
          rw [if_pos rfl]
          have e2 : a.tmps[65]?.getD undef = .bool false := ev_tmpF (show a.eval (.tmp 65) = .bool false from hdep 2 (by decide))
          have e4 : a.tmps[67]?.getD undef = .bool false := ev_tmpF (show a.eval (.tmp 67) = .bool false from hdep 4 (by decide))
          go_simp
          exact hK.out _ _ (Ext.refl _) hB rfl
        case s6 =>
          intro a w1 hF hB hdep K hK
          rw [if_pos rfl]
          have e5 : a.tmps[68]?.getD undef = .bool false := ev_tmpF (show a.eval (.tmp 68) = .bool false from hdep 5 (by decide))
          go_simp
          exact hK.out _ _ (Ext.refl _) hB rfl
        case s7 =>
          intro a w1 hF hB hdep K hK
          rw [if_pos rfl]
          have f22 : a.tmps[22]?.getD undef = .bool false := ev_tmpF hF.2.2.2.2.2.2
          go_simp
          exact hK.out _ _ (Ext.refl _) hB rfl
        case s8 =>
          intro a w1 hF hB hdep K hK
          rw [if_pos rfl]
          have e6 : a.tmps[69]?.getD undef = .bool false := ev_tmpF (show a.eval (.tmp 69) = .bool false from hdep 6 (by decide))
          have e7 : a.tmps[70]?.getD undef = .bool false := ev_tmpF (show a.eval (.tmp 70) = .bool false from hdep 7 (by decide))
          go_simp
          exact hK.out _ _ (Ext.refl _) hB rfl
        case s9 =>
          intro a w1 hF hB hdep K hK
          rw [if_pos rfl]
          have e8 : a.tmps[71]?.getD undef = .bool false := ev_tmpF (show a.eval (.tmp 71) = .bool false from hdep 8 (by decide))
          go_simp
          exact hK.out _ _ (Ext.refl _) hB rfl
        case s10 =>
          intro a w1 hF hB hdep K hK
          rw [if_pos rfl]
          have f15 : a.tmps[15]?.getD undef = .slice A1 L1.length c1 := ev_tmpF hF.1
          go_simp
          exact hK.out _ _ (Ext.refl _) hB rfl
        case s11 =>
          intro a w1 hF hB hdep K hK
          rw [if_pos rfl]
          have e10 : a.tmps[73]?.getD undef = .slice A1 L1.length c1 := ev_tmpF (show a.eval (.tmp 73) = .slice A1 L1.length c1 from hdep 10 (by decide))
          have q := str_of (c := c1) (HR1.out.below hB)
          go_simp
          exact hK.out _ _ (Ext.refl _) hB rfl
        case s12 =>
          intro a w1 hF hB hdep K hK
          rw [if_pos rfl]
          have f16 : a.tmps[16]?.getD undef = .slice A2 L2.length c2 := ev_tmpF hF.2.1
          go_simp
          exact hK.out _ _ (Ext.refl _) hB rfl
        case s13 =>
          intro a w1 hF hB hdep K hK
          rw [if_pos rfl]
          have e12 : a.tmps[75]?.getD undef = .slice A2 L2.length c2 := ev_tmpF (show a.eval (.tmp 75) = .slice A2 L2.length c2 from hdep 12 (by decide))
          have q := str_of (c := c2) (HR2.out.below hB)
          go_simp
          exact hK.out _ _ (Ext.refl _) hB rfl
        case s14 =>
          intro a w1 hF hB hdep K hK
          rw [if_pos rfl]
          have e11 : a.tmps[74]?.getD undef = .string (strB L1) := ev_tmpF (show a.eval (.tmp 74) = .string (strB L1) from hdep 11 (by decide))
          have e13 : a.tmps[76]?.getD undef = .string (strB L2) := ev_tmpF (show a.eval (.tmp 76) = .string (strB L2) from hdep 13 (by decide))
          have q1 := HQ1.out
          have q2 := HQ2.out
          go_simp
          exact hK.out _ _ (Ext.refl _) hB rfl
        case s15 =>
          intro a w1 hF hB hdep K hK
          rw [if_pos rfl]
          refine wp_load_row 29 (.tmp 17) rfl g5 hF.2.2.1 29 (msgC au X) (0, 0) _ (HK5.out.below hB) Try.underlying29 rfl (by kernel_rfl) ?_
          exact hK.out _ _ (Ext.refl _) hB rfl
        case s16 =>
          intro a w1 hF hB hdep K hK
          rw [if_pos rfl]
          refine wp_load_row 29 (.tmp 19) rfl g6 hF.2.2.2.2.1 29 (msgC av Y) (0, 0) _ (HK6.out.below hB) Try.underlying29 rfl (by kernel_rfl) ?_
          exact hK.out _ _ (Ext.refl _) hB rfl
        case s17 =>
          intro a w1 hF hB hdep K hK
          rw [if_pos rfl]
          have e0 : a.tmps[78]?.getD undef = msgV au X := ev_tmpF (show a.eval (.tmp 78) = msgV au X from hdep 15 (by decide))
          have e1 : a.tmps[79]?.getD undef = msgV av Y := ev_tmpF (show a.eval (.tmp 79) = msgV av Y from hdep 16 (by decide))
          go_simp
          go_at_call 18
          refine (SA.out _ hB).mono ?_
          rintro e w2 ⟨rfl, hb⟩
          go_simp
          exact hK.out _ _ (Ext.of_below hb) (hB.trans (hb.mono hB.size)) rfl
        case s18 =>
          intro a w1 hF hB hdep K hK
          rw [if_pos rfl]
          have e14 : a.tmps[77]?.getD undef = .bool D := ev_tmpF (show a.eval (.tmp 77) = .bool D from hdep 14 (by decide))
          have e17 : a.tmps[80]?.getD undef = .bool D := ev_tmpF (show a.eval (.tmp 80) = .bool D from hdep 17 (by decide))
          go_simp
          have q3 : (D != D) = false := by cases D <;> rfl
          first | (rw [q3]; exact hK.out _ _ (Ext.refl _) hB rfl) | (simp only [q3]; exact hK.out _ _ (Ext.refl _) hB rfl) | (cases D <;> exact hK.out _ _ (Ext.refl _) hB rfl)
        case s19 =>
          intro a w1 hF hB hdep K hK
          rw [if_pos rfl]
          have e9 : a.tmps[72]?.getD undef = .bool false := ev_tmpF (show a.eval (.tmp 72) = .bool false from hdep 9 (by decide))
          have e18 : a.tmps[81]?.getD undef = .bool false := ev_tmpF (show a.eval (.tmp 81) = .bool false from hdep 18 (by decide))
          go_simp
          exact hK.out _ _ (Ext.refl _) hB rfl
      case hm => kernel_rfl
      case hb => kernel_rfl
      case inj =>
        intro i j hi hj h
        have h1 : ((List.range 20).all fun i => (List.range 20).all fun j => !(dstS8 i == dstS8 j) || (i == j)) = true := by kernel_rfl
        have h2 := List.all_eq_true.1 (List.all_eq_true.1 h1 i (List.mem_range.2 hi)) j (List.mem_range.2 hj)
        simpa [h] using h2
      case dst => exact all_ops (AllFrom.cons rfl (AllFrom.cons rfl (AllFrom.cons rfl (AllFrom.cons rfl (AllFrom.cons rfl (AllFrom.cons rfl (AllFrom.cons rfl (AllFrom.cons rfl (AllFrom.cons rfl (AllFrom.cons rfl (AllFrom.cons rfl (AllFrom.cons rfl (AllFrom.cons rfl (AllFrom.cons rfl (AllFrom.cons rfl (AllFrom.cons rfl (AllFrom.cons rfl (AllFrom.cons rfl (AllFrom.cons rfl (AllFrom.cons rfl AllFrom.nil))))))))))))))))))))
      case deps =>
        intro i hi j hj
        refine deps_ofF (deps := depsS8) ?_ i hi j hj
        kernel_rfl
      case want => exact all_ops (AllFrom.cons (fun U w hd => rfl) (AllFrom.cons (fun U w hd => rfl) (AllFrom.cons (fun U w hd => rfl) (AllFrom.cons (fun U w hd => wanted_ofF rfl (yielded_ofF (s := 65) (b := false) rfl ((show _ = some (U 65) from by kernel_rfl).trans (congrArg some (show U 65 = .bool false from hd 2 (by decide))))) rfl) (AllFrom.cons (fun U w hd => wanted_ofF rfl (yielded_ofF (s := 65) (b := false) rfl ((show _ = some (U 65) from by kernel_rfl).trans (congrArg some (show U 65 = .bool false from hd 2 (by decide))))) rfl) (AllFrom.cons (fun U w hd => rfl) (AllFrom.cons (fun U w hd => rfl) (AllFrom.cons (fun U w hd => wanted_ofF rfl (yielded_ofF (s := 69) (b := false) rfl ((show _ = some (U 69) from by kernel_rfl).trans (congrArg some (show U 69 = .bool false from hd 6 (by decide))))) rfl) (AllFrom.cons (fun U w hd => rfl) (AllFrom.cons (fun U w hd => rfl) (AllFrom.cons (fun U w hd => wanted_ofF rfl (yielded_ofF (s := 72) (b := false) rfl ((show _ = some (U 72) from by kernel_rfl).trans (congrArg some (show U 72 = .bool false from hd 9 (by decide))))) rfl) (AllFrom.cons (fun U w hd => wanted_ofF rfl (yielded_ofF (s := 72) (b := false) rfl ((show _ = some (U 72) from by kernel_rfl).trans (congrArg some (show U 72 = .bool false from hd 9 (by decide))))) rfl) (AllFrom.cons (fun U w hd => wanted_ofF rfl (yielded_ofF (s := 72) (b := false) rfl ((show _ = some (U 72) from by kernel_rfl).trans (congrArg some (show U 72 = .bool false from hd 9 (by decide))))) rfl) (AllFrom.cons (fun U w hd => wanted_ofF rfl (yielded_ofF (s := 72) (b := false) rfl ((show _ = some (U 72) from by kernel_rfl).trans (congrArg some (show U 72 = .bool false from hd 9 (by decide))))) rfl) (AllFrom.cons (fun U w hd => wanted_ofF rfl (yielded_ofF (s := 72) (b := false) rfl ((show _ = some (U 72) from by kernel_rfl).trans (congrArg some (show U 72 = .bool false from hd 9 (by decide))))) rfl) (AllFrom.cons (fun U w hd => wanted_ofF rfl (yielded_ofF (s := 72) (b := false) rfl ((show _ = some (U 72) from by kernel_rfl).trans (congrArg some (show U 72 = .bool false from hd 9 (by decide))))) rfl) (AllFrom.cons (fun U w hd => wanted_ofF rfl (yielded_ofF (s := 72) (b := false) rfl ((show _ = some (U 72) from by kernel_rfl).trans (congrArg some (show U 72 = .bool false from hd 9 (by decide))))) rfl) (AllFrom.cons (fun U w hd => wanted_ofF rfl (yielded_ofF (s := 72) (b := false) rfl ((show _ = some (U 72) from by kernel_rfl).trans (congrArg some (show U 72 = .bool false from hd 9 (by decide))))) rfl) (AllFrom.cons (fun U w hd => wanted_ofF rfl (yielded_ofF (s := 72) (b := false) rfl ((show _ = some (U 72) from by kernel_rfl).trans (congrArg some (show U 72 = .bool false from hd 9 (by decide))))) rfl) (AllFrom.cons (fun U w hd => rfl) AllFrom.nil))))))))))))))))))))
      case put => exact all_ops (AllFrom.cons (fun _ _ => by kernel_rfl) (AllFrom.cons (fun _ _ => by kernel_rfl) (AllFrom.cons (fun _ _ => by kernel_rfl) (AllFrom.cons (fun _ _ => by kernel_rfl) (AllFrom.cons (fun _ _ => by kernel_rfl) (AllFrom.cons (fun _ _ => by kernel_rfl) (AllFrom.cons (fun _ _ => by kernel_rfl) (AllFrom.cons (fun _ _ => by kernel_rfl) (AllFrom.cons (fun _ _ => by kernel_rfl) (AllFrom.cons (fun _ _ => by kernel_rfl) (AllFrom.cons (fun _ _ => by kernel_rfl) (AllFrom.cons (fun _ _ => by kernel_rfl) (AllFrom.cons (fun _ _ => by kernel_rfl) (AllFrom.cons (fun _ _ => by kernel_rfl) (AllFrom.cons (fun _ _ => by kernel_rfl) (AllFrom.cons (fun _ _ => by kernel_rfl) (AllFrom.cons (fun _ _ => by kernel_rfl) (AllFrom.cons (fun _ _ => by kernel_rfl) (AllFrom.cons (fun _ _ => by kernel_rfl) (AllFrom.cons (fun _ _ => by kernel_rfl) AllFrom.nil))))))))))))))))))))
      case ev => exact all_ops (AllFrom.cons (fun _ => by kernel_rfl) (AllFrom.cons (fun _ => by kernel_rfl) (AllFrom.cons (fun _ => by kernel_rfl) (AllFrom.cons (fun _ => by kernel_rfl) (AllFrom.cons (fun _ => by kernel_rfl) (AllFrom.cons (fun _ => by kernel_rfl) (AllFrom.cons (fun _ => by kernel_rfl) (AllFrom.cons (fun _ => by kernel_rfl) (AllFrom.cons (fun _ => by kernel_rfl) (AllFrom.cons (fun _ => by kernel_rfl) (AllFrom.cons (fun _ => by kernel_rfl) (AllFrom.cons (fun _ => by kernel_rfl) (AllFrom.cons (fun _ => by kernel_rfl) (AllFrom.cons (fun _ => by kernel_rfl) (AllFrom.cons (fun _ => by kernel_rfl) (AllFrom.cons (fun _ => by kernel_rfl) (AllFrom.cons (fun _ => by kernel_rfl) (AllFrom.cons (fun _ => by kernel_rfl) (AllFrom.cons (fun _ => by kernel_rfl) (AllFrom.cons (fun _ => by kernel_rfl) AllFrom.nil))))))))))))))))))))
      case fr => exact fun U => ⟨by kernel_rfl, by kernel_rfl, by kernel_rfl, by kernel_rfl, by kernel_rfl, by kernel_rfl, by kernel_rfl⟩
      case done =>
        intro U w' hB hV
        have e1 : U 82 = .bool false := hV 19 (by decide)
        unfold frameS8
        rw [e1]
        have HB9 := Lib.hid hB
        clear hV e1 hB
        go_wp2_with fail
        go_meet
        exact ⟨rfl, HB9⟩
    case rest =>
      obtain ⟨rfl, HB13⟩ := hcut
      rename World => w13
      have HR1 := Lib.hid (HR1.out.below HB13.out).fit
      have HB := Lib.hid (HB.out.trans (HB13.out.mono HB.out.size))
      clear HB13 HR2 HRU HRV HK5 HK6 SA HQ1 HQ2
      have hand := and_ffff at_
      obtain ⟨k, hk, hk4⟩ : ∃ k : Nat, (at_ % 65536).tmod 4 = (k : Int) ∧ k < 4 := by
        rw [Int.tmod_eq_emod_of_nonneg (by omega)]
        exact ⟨((at_ % 65536) % 4).toNat, by omega, by omega⟩
      have hsl : ∀ w : World, (Instr.slice 22 (.slice A1 L1.length c1) none (some (.int .i64 (k : Int))) none).run Try.prog w = .ok (.slice A1 k c1) w := by
        obtain ⟨i9, hi1, hi2, hi3, hi4⟩ := info_parts byteT.info
        exact fun w => run_slice_to (P := Try.prog) (t := 22) byteT.under hi1 A1 L1.length c1 k (by have := HC1.out; omega) w
      have CO5 : Hid (Calls Try.prog 22 #[.slice A1 k c1] w13 (GotG w13 w13 none)) := Lib.hid (fropen_is (l := L1.take k) (Fr.opn_short (by rw [List.length_take]; omega)) (by rw [List.length_take]; omega) (fun x hx => F1.out.lt x (List.mem_of_mem_take hx)) (by have := HC1.out; omega) (by rw [bv_take]; exact HR1.out.take (by omega)) (Below.refl _ _))
      have HHK := Lib.hid hk4
      clear hk4 hl1
      go_upto_region 12 with (first
        | (go_at_call 22; refine CO5.out.mono ?_; rintro e w14 ⟨aq, he, hoq, hBq, hbq⟩
           have he2 : e = .returned (.tuple #[.agg #[.int .i64 0, .int .i64 0, .int .i64 0, .int .i64 0, .int .i64 0, .int .i64 0, .bool false, .int .i64 0, .int .i64 0, .int .i64 0, .int .i64 0, .slice aq.Ad 0 aq.cd, .int .i64 0, .int .i64 0, .slice aq.Ah 0 aq.ch, .slice aq.An 0 aq.cn, .int .i64 0, .int .i64 0, .int .i64 0, .int .i64 0, .int .i64 0, .slice aq.c.Ak 0 aq.c.ck, .slice aq.c.Av 0 aq.c.cv, .slice aq.c.Ao 0 aq.c.co], .bool false]) := he
           clear he
           subst he2
           have HB14 := Lib.hid hBq
           have HZ14 := Lib.hid (Blk.new w14 29 #[.int .i64 0, .int .i64 0, .int .i64 0, .int .i64 0, .int .i64 0, .int .i64 0, .bool false, .int .i64 0, .int .i64 0, .int .i64 0, .int .i64 0, .slice none 0 0, .int .i64 0, .int .i64 0, .slice none 0 0, .slice none 0 0, .int .i64 0, .int .i64 0, .int .i64 0, .int .i64 0, .int .i64 0, .slice none 0 0, .slice none 0 0, .slice none 0 0])
           clear hoq hBq hbq CO5)
        | (refine wpList_store_row rfl 29 (.tmp 24) (.tmp 91) rfl w14.heap.size #[.int .i64 0, .int .i64 0, .int .i64 0, .int .i64 0, .int .i64 0, .int .i64 0, .bool false, .int .i64 0, .int .i64 0, .int .i64 0, .int .i64 0, .slice aq.Ad 0 aq.cd, .int .i64 0, .int .i64 0, .slice aq.Ah 0 aq.ch, .slice aq.An 0 aq.cn, .int .i64 0, .int .i64 0, .int .i64 0, .int .i64 0, .int .i64 0, .slice aq.c.Ak 0 aq.c.ck, .slice aq.c.Av 0 aq.c.cv, .slice aq.c.Ao 0 aq.c.co] rfl rfl 29 #[.int .i64 0, .int .i64 0, .int .i64 0, .int .i64 0, .int .i64 0, .int .i64 0, .bool false, .int .i64 0, .int .i64 0, .int .i64 0, .int .i64 0, .slice none 0 0, .int .i64 0, .int .i64 0, .slice none 0 0, .slice none 0 0, .int .i64 0, .int .i64 0, .int .i64 0, .int .i64 0, .int .i64 0, .slice none 0 0, .slice none 0 0, .slice none 0 0] HZ14.out (by kernel_rfl) rfl (by kernel_rfl) ?_)
        | fail)
      have b9 : Below w14.heap.size w14 ((w14.alloc (.cells #[.int .i64 0, .int .i64 0, .int .i64 0, .int .i64 0, .int .i64 0, .int .i64 0, .bool false, .int .i64 0, .int .i64 0, .int .i64 0, .int .i64 0, .slice none 0 0, .int .i64 0, .int .i64 0, .slice none 0 0, .slice none 0 0, .int .i64 0, .int .i64 0, .int .i64 0, .int .i64 0, .int .i64 0, .slice none 0 0, .slice none 0 0, .slice none 0 0] 29)).setRow w14.heap.size #[.int .i64 0, .int .i64 0, .int .i64 0, .int .i64 0, .int .i64 0, .int .i64 0, .bool false, .int .i64 0, .int .i64 0, .int .i64 0, .int .i64 0, .slice aq.Ad 0 aq.cd, .int .i64 0, .int .i64 0, .slice aq.Ah 0 aq.ch, .slice aq.An 0 aq.cn, .int .i64 0, .int .i64 0, .int .i64 0, .int .i64 0, .int .i64 0, .slice aq.c.Ak 0 aq.c.ck, .slice aq.c.Av 0 aq.c.cv, .slice aq.c.Ao 0 aq.c.co]) := below_setRow ((Below.refl _ _).alloc (Nat.le_refl _) _) (Nat.le_refl _) _
      have HBF := Lib.hid (HB.out.trans ((HB14.out.trans (b9.mono HB14.out.size)).mono HB.out.size))
      clear b9
      go_wp2_with (go_at_call 23; refine (framAwake _).mono ?_; rintro e w6 ⟨rfl, hB6⟩)
      go_ret
      exact ⟨rfl, HBF.out.trans (hB6.mono HBF.out.size)⟩
theorem framShort_walk (a0 : Int) (a1 : Int) (a2 : Int) (a3 : Int) (a4 : Int) (a5 : Int) (w : World) (w0 : (Lit.int .i64 a0).wf = true) (w1 : (Lit.int .i64 a1).wf = true) (w2 : (Lit.int .i64 a2).wf = true) (w3 : (Lit.int .i64 a3).wf = true) (w4 : (Lit.int .i64 a4).wf = true) (w5 : (Lit.int .u8 a5).wf = true) : Calls Try.prog 4 #[.int .i64 a0, .int .i64 a1, .int .i64 a2, .int .i64 a3, .int .i64 a4, .int .u8 a5] w fun e w' => e = .returned (.bool true) ∧ Below w.heap.size w w' := framShort_raw a0 a1 a2 a3 a4 a5 w
end Go.Proofs.Ytlfkgpllleogoaa

