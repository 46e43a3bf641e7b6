/- MesgBackA -/
import Derived.Test.YtmdkbmafkglhdaaK44
import Derived.Test.YtmdkbmafkglhdaaK45
import Derived.Test.YtmdkbmafkglhdaaK48
import Derived.Test.YtmdkbmafkglhdaaK49
import Derived.Test.YtmdkbmafkglhdaaK50
import Derived.Test.YtmdkbmafkglhdaaK51
import Derived.BigQuiet
import Derived.Deep.MidRow
import Derived.Deep.QuietTactic
import Derived.Great.BuildSlice
namespace Go.Proofs.Ytmdkbmafkglhdaa
open Go.RowKit
set_option linter.unusedVariables false
def Tab2 (w : World) (b : Nat) (g0 : GA) (m0 MM : Mg) : Prop := b < w.heap.size ∧ (∀ t u, (msgC g0 m0)[t]? = some u → w.cell? ⟨b, t, none⟩ = some u) ∧ ∃ a, (∀ t u, (msgC a MM)[t]? = some u → w.cell? ⟨b, 24 + t, none⟩ = some u) ∧ RdG w w.heap.size a MM
theorem Tab2.ext {w w' : World} {b : Nat} {g0 : GA} {m0 MM : Mg} (h : Tab2 w b g0 m0 MM) (he : Ext w w') : Tab2 w' b g0 m0 MM := by
  obtain ⟨h1, h2, a, h3, h4⟩ := h
  exact ⟨Nat.lt_of_lt_of_le h1 he.1, fun t u hu => (he.2 _ h1).trans (h2 t u hu), a, fun t u hu => (he.2 _ h1).trans (h3 t u hu), h4.d.keep he.2 he.1, h4.h.keep he.2 he.1, h4.n.keep he.2 he.1, ⟨h4.c.rk.keep he.2 he.1, h4.c.rv.keep he.2 he.1, h4.c.ro.keep he.2 he.1⟩, h4.hl, h4.nl⟩
def V3 (g0 : GA) (m0 MM : Mg) (n m : Int) (i : Nat) (v : Value) (w : World) : Prop := match i with
  | 0 => v = .agg (msgC g0 m0)
  | 1 => v = .int .i64 n
  | 2 => v = .int .i64 m
  | 3 => ∃ a, v = .agg (msgC a MM) ∧ RdG w w.heap.size a MM
  | 4 => ∃ b, v = .slice (some ⟨b, 0, none⟩) 2 2 ∧ Tab2 w b g0 m0 MM
  | 5 => v = .int .i64 2
  | 6 => v = .int .i64 0
  | _ => True
theorem V3.ext (g0 : GA) (m0 MM : Mg) (n m : Int) (i : Nat) (v : Value) (w w' : World) (h : V3 g0 m0 MM n m i v w) (he : Ext w w') : V3 g0 m0 MM n m i v w' := by
  match i, h with
  | 0, h => exact h
  | 1, h => exact h
  | 2, h => exact h
  | 3, ⟨a, h1, h4⟩ => exact ⟨a, h1, h4.d.keep he.2 he.1, h4.h.keep he.2 he.1, h4.n.keep he.2 he.1, ⟨h4.c.rk.keep he.2 he.1, h4.c.rv.keep he.2 he.1, h4.c.ro.keep he.2 he.1⟩, h4.hl, h4.nl⟩
  | 4, ⟨b, h1, h2⟩ => exact ⟨b, h1, h2.ext he⟩
  | 5, h => exact h
  | 6, h => exact h
  | _ + 7, h => trivial
def dst3 (i : Nat) : Nat := ([40, 41, 42, 43, 44, 45, 46] : List Nat).getD i 0
def deps3 (i : Nat) : List Nat := ([[], [], [], [1, 2], [0, 3], [4], []] : List (List Nat)).getD i []
theorem deps_of3 {md : Region.Mode} {ops : Array Oper} {deps : Nat → List Nat} (h : ((List.range ops.size).all fun i => (deps i).all fun j => Region.waitsFor md ops i j) = true) : ∀ i, i < ops.size → ∀ j ∈ deps i, Region.waitsFor md ops i j = true :=
  fun i hi j hj => List.all_eq_true.1 (List.all_eq_true.1 h i (List.mem_range.2 hi)) j hj
theorem ev_tmp3 {a : Act} {t : Nat} {v : Value} (h : a.eval (.tmp t) = v) : a.tmps[t]?.getD undef = v := by rw [← h]; simp [Act.eval]
def Fr3 (g : Nat) (n m : Int) (a : Act) : Prop := a.eval (.tmp 1) = .int .i64 n ∧ a.eval (.tmp 2) = .int .i64 m ∧ a.eval (.tmp 4) = .pointer (some ⟨g, 0, none⟩)
theorem step3_build {Q : Exit → Act → World → Prop} {w0 : World} {Fr : Act → Prop} {g0 : GA} {m0 MM : Mg} {n m : Int} (o : Oper) (ho : o.op = .buildSlice 33 2 #[(0, .tmp 40), (1, .tmp 43)]) : OpOKF Try.prog Q w0 (V3 g0 m0 MM n m) dst3 deps3 Fr 4 o := by
  intro a w1 hF hB hdep K hK
  have e0 : a.eval (.tmp 40) = .agg (msgC g0 m0) := hdep 0 (by decide)
  obtain ⟨ga, e1, h2⟩ : ∃ ga, a.eval (.tmp 43) = .agg (msgC ga MM) ∧ RdG w1 w1.heap.size ga MM := hdep 3 (by decide)
  obtain ⟨ie, z, g1, g2, g3⟩ : ∃ ie z, (Try.prog).info? 29 = some ie ∧ ie.zero = some z ∧ ie.size = 24 := ⟨_, _, rfl, rfl, by kernel_rfl⟩
  obtain ⟨r, hr, hrs, hk⟩ := Great.fill_dense (s := 24) (by omega) [a.eval (.tmp 40), a.eval (.tmp 43)] 0 ((Array.range (2 * 24)).map (z.cells[· % z.cells.size]!)) (by rw [e0, e1]; simp [Value.cells, msgC]) (by simp)
  refine wp_buildSlice 33 29 2 #[(0, .tmp 40), (1, .tmp 43)] ho r ie z Try.underlying33 g1 g2 (by rw [g3]; decide) (by rw [g3]; decide) (by rw [g3, Array.toList_map]; exact hr) ?_
  refine hK.out _ _ (Ext.of_below ((Below.refl _ _).alloc (Nat.le_refl _) _)) (hB.alloc hB.size _) ?_
  refine ⟨w1.heap.size, rfl, by simp, fun t u hu => ?_, ga, fun t u hu => ?_, h2.below' ((Below.refl _ _).alloc (Nat.le_refl _) _)⟩
  · have ht : t < 24 := (Array.getElem?_eq_some_iff.1 hu).1
    rw [World.cell?_alloc_mark, hk t, if_pos (by simp; omega), show t / 24 - 0 = 0 by omega, show t % 24 = t by omega]
    simp only [List.getElem?_cons_zero, Option.bind_some, e0]
    exact hu
  · have ht : t < 24 := (Array.getElem?_eq_some_iff.1 hu).1
    rw [World.cell?_alloc_mark, hk (24 + t), if_pos (by simp; omega), show (24 + t) / 24 - 0 = 1 by omega, show (24 + t) % 24 = t by omega]
    simp only [List.getElem?_cons_succ, List.getElem?_cons_zero, Option.bind_some, e1]
    exact hu
theorem row2 {w wr : World} {b k : Nat} {g0 : GA} {m0 MM : Mg} (hT : Tab2 wr b g0 m0 MM) (hB : Below w.heap.size w wr) (hM : RdG w w.heap.size g0 m0) (hw : m0.Wide) (hw' : MM.Wide) (hk : k < 2) : ∃ a M, (∀ t u, (msgC a M)[t]? = some u → wr.cell? ⟨b, k * 24 + t, none⟩ = some u) ∧ RdG wr wr.heap.size a M ∧ M.Wide := by
  obtain ⟨h1, h2, a, h3, h4⟩ := hT
  rcases (show k = 0 ∨ k = 1 by omega) with rfl | rfl
  · exact ⟨g0, m0, fun t u hu => by rw [show 0 * 24 + t = t by omega]; exact h2 t u hu, hM.below' hB, hw⟩
  · exact ⟨a, MM, fun t u hu => by rw [show 1 * 24 + t = 24 + t by omega]; exact h3 t u hu, h4, hw'⟩
inductive K9 where
  | eq (u : Value)
  | row (L : List Nat)
  | any
def V9 (ks : List K9) (i : Nat) (v : Value) (w : World) : Prop := match ks[i]? with
  | some (.eq u) => v = u
  | some (.row L) => ∃ A c, v = .slice A L.length c ∧ Rd w w.heap.size A L.length (bv L)
  | _ => True
theorem V9.ext (ks : List K9) (i : Nat) (v : Value) (w w' : World) (h : V9 ks i v w) (he : Ext w w') : V9 ks i v w' := by
  unfold V9 at h ⊢
  cases hk : ks[i]? with
  | none => trivial
  | some k =>
    rw [hk] at h
    cases k with
    | eq u => exact h
    | row L => obtain ⟨A, c, h1, h2⟩ := h; exact ⟨A, c, h1, h2.keep he.2 he.1⟩
    | any => trivial
theorem wanted_of {o : Oper} {y : Nat → Option Bool} {j : Nat} {b c r : Bool} (hg : o.guard = some (j, b)) (hy : y j = some c) (hr : (c == b) = r) : Region.wanted o y = r := by
  subst hr; unfold Region.wanted; rw [hg]; simp [hy]
theorem yielded_of {ops : Array Oper} {tmps : Array Value} {j s : Nat} {b : Bool} (ho : (ops[j]?).bind (·.dst) = some s) (ht : tmps[s]? = some (.bool b)) : yielded ops tmps j = some b := by
  unfold yielded; rw [ho, Option.bind_some, ht]
def dst9 (i : Nat) : Nat := ([60, 61, 62, 63, 64, 65, 66, 67, 68, 69, 70, 71, 72, 73, 74, 75, 76, 77, 78, 79, 80, 81, 82, 83, 84, 85, 86, 87, 88, 89, 90, 91, 92, 93, 94, 95, 96, 97] : List Nat).getD i 0
def deps9 (i : Nat) : List Nat := ([[], [0], [1], [2], [3, 2], [2], [5, 2], [4, 6, 2], [2, 7], [8], [9], [10, 9], [9], [12, 9], [11, 13, 9], [9, 14], [15], [16], [17, 16], [16], [19, 16], [18, 20, 16], [16, 21], [22], [23], [24, 23], [23], [26, 23], [25, 27, 23], [23, 28], [29], [30], [31, 30], [32, 30], [30], [34, 30], [33, 35, 30], [30, 36]] : List (List Nat)).getD i []
def Fr9 (gx gy : Nat) (A3 : Option Addr) (n3 c3 : Nat) (a : Act) : Prop := a.eval (.tmp 10) = .pointer (some ⟨gx, 0, none⟩) ∧ a.eval (.tmp 11) = .slice A3 n3 c3 ∧ a.eval (.tmp 12) = .pointer (some ⟨gy, 0, none⟩) ∧ a.eval (.tmp 13) = .bool true
def kinds9 (gx gy : Nat) (M MB : Mg) (az : GA) (A3 : Option Addr) (c3 : Nat) (L : List Nat) : List K9 := [.eq (.bool true), .eq (.bool false), .eq (.bool false), .eq (.pointer (some ⟨gy, 0, none⟩)), .eq (.int .i64 M.kind), .eq (.pointer (some ⟨gx, 0, none⟩)), .eq (.int .i64 M.kind), .eq (.bool false), .eq (.bool false), .eq (.bool false), .eq (.pointer (some ⟨gy, 1, none⟩)), .eq (.int .i64 M.frm), .eq (.pointer (some ⟨gx, 1, none⟩)), .eq (.int .i64 M.frm), .eq (.bool false), .eq (.bool false), .eq (.bool false), .eq (.pointer (some ⟨gy, 2, none⟩)), .eq (.int .i64 M.dst), .eq (.pointer (some ⟨gx, 2, none⟩)), .eq (.int .i64 M.dst), .eq (.bool false), .eq (.bool false), .eq (.bool false), .eq (.pointer (some ⟨gy, 3, none⟩)), .eq (.int .i64 M.view), .eq (.pointer (some ⟨gx, 3, none⟩)), .eq (.int .i64 M.view), .eq (.bool false), .eq (.bool false), .eq (.bool false), .eq (.agg #[.int .i64 MB.kind, .int .i64 MB.frm, .int .i64 MB.dst, .int .i64 MB.view, .int .i64 MB.inst, .int .i64 MB.len, .bool MB.has, .int .i64 MB.mem, .int .i64 MB.src, .int .i64 MB.pos, .int .i64 MB.tot, .slice az.Ad MB.data.length az.cd, .int .i64 MB.hop, .int .i64 MB.seq, .slice az.Ah MB.hav.length az.ch, .slice az.An MB.nee.length az.cn, .int .i64 MB.idx, .int .i64 MB.ent.s, .int .i64 MB.ent.q, .int .i64 MB.ent.c.kind, .int .i64 MB.ent.c.who, .slice az.c.Ak MB.ent.c.key.length az.c.ck, .slice az.c.Av MB.ent.c.val.length az.c.cv, .slice az.c.Ao MB.ent.c.old.length az.c.co]), .row L, .eq (.string (strB L)), .eq (.slice A3 L.length c3), .eq (.string (strB L)), .eq (.bool false), .eq (.bool false)]
def frame9 (gx gy : Nat) (A3 : Option Addr) (c3 : Nat) (L : List Nat) (x0 x1 x2 x3 x4 x5 x6 x7 x8 x9 x14 x15 x16 x17 x18 x19 x20 x21 x22 x23 x24 x25 x26 x27 x28 x29 x30 x31 x32 x33 x34 x35 x36 x37 x38 x39 x40 x41 x42 x43 x44 x45 x46 x47 x48 x49 x50 x51 x52 x53 x54 x55 x56 x57 x58 x59 x98 x99 x100 x101 x102 x103 x104 x105 x106 x107 x108 x109 x110 x111 x112 x113 x114 x115 x116 x117 x118 x119 x120 x121 x122 x123 x124 x125 x126 x127 x128 x129 x130 x131 x132 x133 x134 x135 x136 x137 x138 : Value) (U : Nat → Value) : Act := { tmps := List.toArray (x0 :: x1 :: x2 :: x3 :: x4 :: x5 :: x6 :: x7 :: x8 :: x9 :: .pointer (some ⟨gx, 0, none⟩) :: .slice A3 L.length c3 :: .pointer (some ⟨gy, 0, none⟩) :: .bool true :: x14 :: x15 :: x16 :: x17 :: x18 :: x19 :: x20 :: x21 :: x22 :: x23 :: x24 :: x25 :: x26 :: x27 :: x28 :: x29 :: x30 :: x31 :: x32 :: x33 :: x34 :: x35 :: x36 :: x37 :: x38 :: x39 :: x40 :: x41 :: x42 :: x43 :: x44 :: x45 :: x46 :: x47 :: x48 :: x49 :: x50 :: x51 :: x52 :: x53 :: x54 :: x55 :: x56 :: x57 :: x58 :: x59 :: U 60 :: U 61 :: U 62 :: U 63 :: U 64 :: U 65 :: U 66 :: U 67 :: U 68 :: U 69 :: U 70 :: U 71 :: U 72 :: U 73 :: U 74 :: U 75 :: U 76 :: U 77 :: U 78 :: U 79 :: U 80 :: U 81 :: U 82 :: U 83 :: U 84 :: U 85 :: U 86 :: U 87 :: U 88 :: U 89 :: U 90 :: U 91 :: U 92 :: U 93 :: U 94 :: U 95 :: U 96 :: U 97 :: x98 :: x99 :: x100 :: x101 :: x102 :: x103 :: x104 :: x105 :: x106 :: x107 :: x108 :: x109 :: x110 :: x111 :: x112 :: x113 :: x114 :: x115 :: x116 :: x117 :: x118 :: x119 :: x120 :: x121 :: x122 :: x123 :: x124 :: x125 :: x126 :: x127 :: x128 :: x129 :: x130 :: x131 :: x132 :: x133 :: x134 :: x135 :: x136 :: x137 :: x138 :: []), defers := [] }
theorem wanted_none {o : Oper} {y : Nat → Option Bool} {j : Nat} {b : Bool} (hg : o.guard = some (j, b)) (hy : y j = none) : Region.wanted o y = false := by
  unfold Region.wanted; rw [hg]; simp [hy]
theorem yielded_none {ops : Array Oper} {tmps : Array Value} {j s : Nat} (ho : (ops[j]?).bind (·.dst) = some s) (ht : tmps[s]? = some undef) : yielded ops tmps j = none := by
  unfold yielded; rw [ho, Option.bind_some, ht]; rfl
def dst16 (i : Nat) : Nat := ([118, 119, 120, 121, 122, 123, 124, 125, 126, 127, 128, 129, 130, 131, 132, 133, 134, 135, 136, 137, 138, 8] : List Nat).getD i 0
def Fr16 (gy : Nat) (b : Bool) (A : Option Addr) (n cap : Nat) (a : Act) : Prop := a.eval (.tmp 16) = .pointer (some ⟨gy, 0, none⟩) ∧ a.eval (.tmp 17) = .bool b ∧ a.eval (.tmp 3) = .slice A n cap
def deps16S (i : Nat) : List Nat := ([[], [0], [1], [2], [2], [2], [2], [6], [7], [8, 7], [9], [10, 9], [11, 9], [9], [13, 9], [12, 14, 9], [9, 15, 7], [7, 16], [17], [18], [18, 19], [20]] : List (List Nat)).getD i []
def want16S (i : Nat) : Bool := ([true, true, true, false, false, false, true, true, true, true, true, true, true, true, true, true, true, true, true, true, true, true] : List Bool).getD i true
def kinds16S (gy : Nat) (N : Mg) (az : GA) (A : Option Addr) (cap : Nat) (l : List Nat) : List K9 := [.eq (.bool true), .eq (.bool false), .eq (.bool false), .eq (undef), .eq (undef), .eq (undef), .eq (.bool false), .eq (.bool false), .eq (.bool true), .eq (.bool true), .eq (.agg #[.int .i64 N.kind, .int .i64 N.frm, .int .i64 N.dst, .int .i64 N.view, .int .i64 N.inst, .int .i64 N.len, .bool N.has, .int .i64 N.mem, .int .i64 N.src, .int .i64 N.pos, .int .i64 N.tot, .slice az.Ad N.data.length az.cd, .int .i64 N.hop, .int .i64 N.seq, .slice az.Ah N.hav.length az.ch, .slice az.An N.nee.length az.cn, .int .i64 N.idx, .int .i64 N.ent.s, .int .i64 N.ent.q, .int .i64 N.ent.c.kind, .int .i64 N.ent.c.who, .slice az.c.Ak N.ent.c.key.length az.c.ck, .slice az.c.Av N.ent.c.val.length az.c.cv, .slice az.c.Ao N.ent.c.old.length az.c.co]), .row l, .eq (.string (strB l)), .eq (.slice A l.length cap), .eq (.string (strB l)), .eq (.bool true), .eq (.bool true), .eq (.bool true), .eq (.bool true), .eq (.bool true), .eq (.bool true), .eq (.bool true)]
def deps16N (i : Nat) : List Nat := ([[], [0], [1], [2], [2], [3, 4, 2], [2, 5], [6], [7], [7], [9], [9], [9], [9], [9], [9], [7], [7], [17], [18], [18, 19], [20]] : List (List Nat)).getD i []
def want16N (i : Nat) : Bool := ([true, true, true, true, true, true, true, true, false, false, false, false, false, false, false, false, false, true, true, true, true, true] : List Bool).getD i true
def kinds16N (gy : Nat) (N : Mg) (az : GA) (A : Option Addr) (cap : Nat) (l : List Nat) : List K9 := [.eq (.bool false), .eq (.bool true), .eq (.bool true), .eq (.agg #[.int .i64 N.kind, .int .i64 N.frm, .int .i64 N.dst, .int .i64 N.view, .int .i64 N.inst, .int .i64 N.len, .bool N.has, .int .i64 N.mem, .int .i64 N.src, .int .i64 N.pos, .int .i64 N.tot, .slice az.Ad N.data.length az.cd, .int .i64 N.hop, .int .i64 N.seq, .slice az.Ah N.hav.length az.ch, .slice az.An N.nee.length az.cn, .int .i64 N.idx, .int .i64 N.ent.s, .int .i64 N.ent.q, .int .i64 N.ent.c.kind, .int .i64 N.ent.c.who, .slice az.c.Ak N.ent.c.key.length az.c.ck, .slice az.c.Av N.ent.c.val.length az.c.cv, .slice az.c.Ao N.ent.c.old.length az.c.co]), .eq (.agg msgZ), .eq (.bool true), .eq (.bool true), .eq (.bool true), .eq (undef), .eq (undef), .eq (undef), .eq (undef), .eq (undef), .eq (undef), .eq (undef), .eq (undef), .eq (undef), .eq (.bool true), .eq (.bool true), .eq (.bool true), .eq (.bool true), .eq (.bool true)]
def frame16 (gy : Nat) (b : Bool) (A : Option Addr) (n cap : Nat) (x0 x1 x2 x4 x5 x6 x7 x9 x10 x11 x12 x13 x14 x15 x18 x19 x20 x21 x22 x23 x24 x25 x26 x27 x28 x29 x30 x31 x32 x33 x34 x35 x36 x37 x38 x39 x40 x41 x42 x43 x44 x45 x46 x47 x48 x49 x50 x51 x52 x53 x54 x55 x56 x57 x58 x59 x60 x61 x62 x63 x64 x65 x66 x67 x68 x69 x70 x71 x72 x73 x74 x75 x76 x77 x78 x79 x80 x81 x82 x83 x84 x85 x86 x87 x88 x89 x90 x91 x92 x93 x94 x95 x96 x97 x98 x99 x100 x101 x102 x103 x104 x105 x106 x107 x108 x109 x110 x111 x112 x113 x114 x115 x116 x117 : Value) (U : Nat → Value) : Act := { tmps := List.toArray (x0 :: x1 :: x2 :: .slice A n cap :: x4 :: x5 :: x6 :: x7 :: U 8 :: x9 :: x10 :: x11 :: x12 :: x13 :: x14 :: x15 :: .pointer (some ⟨gy, 0, none⟩) :: .bool b :: x18 :: x19 :: x20 :: x21 :: x22 :: x23 :: x24 :: x25 :: x26 :: x27 :: x28 :: x29 :: x30 :: x31 :: x32 :: x33 :: x34 :: x35 :: x36 :: x37 :: x38 :: x39 :: x40 :: x41 :: x42 :: x43 :: x44 :: x45 :: x46 :: x47 :: x48 :: x49 :: x50 :: x51 :: x52 :: x53 :: x54 :: x55 :: x56 :: x57 :: x58 :: x59 :: x60 :: x61 :: x62 :: x63 :: x64 :: x65 :: x66 :: x67 :: x68 :: x69 :: x70 :: x71 :: x72 :: x73 :: x74 :: x75 :: x76 :: x77 :: x78 :: x79 :: x80 :: x81 :: x82 :: x83 :: x84 :: x85 :: x86 :: x87 :: x88 :: x89 :: x90 :: x91 :: x92 :: x93 :: x94 :: x95 :: x96 :: x97 :: x98 :: x99 :: x100 :: x101 :: x102 :: x103 :: x104 :: x105 :: x106 :: x107 :: x108 :: x109 :: x110 :: x111 :: x112 :: x113 :: x114 :: x115 :: x116 :: x117 :: U 118 :: U 119 :: U 120 :: U 121 :: U 122 :: U 123 :: U 124 :: U 125 :: U 126 :: U 127 :: U 128 :: U 129 :: U 130 :: U 131 :: U 132 :: U 133 :: U 134 :: U 135 :: U 136 :: U 137 :: U 138 :: []), defers := [] }
def frame3 (n m : Int) (g : Nat) (x0 x3 x18 x19 x20 x21 x22 x23 x24 x25 x26 x27 x28 x29 x30 x31 x32 x33 x34 x35 x36 x37 x38 : Value) (U : Nat → Value) : Act := { tmps := List.toArray (x0 :: .int .i64 n :: .int .i64 m :: x3 :: .pointer (some ⟨g, 0, none⟩) :: undef :: undef :: undef :: .bool false :: undef :: undef :: undef :: undef :: undef :: undef :: undef :: undef :: undef :: x18 :: x19 :: x20 :: x21 :: x22 :: x23 :: x24 :: x25 :: x26 :: x27 :: x28 :: x29 :: x30 :: x31 :: x32 :: x33 :: x34 :: x35 :: x36 :: x37 :: x38 :: undef :: U 40 :: U 41 :: U 42 :: U 43 :: U 44 :: U 45 :: U 46 :: undef :: undef :: undef :: undef :: undef :: undef :: undef :: undef :: undef :: undef :: undef :: undef :: undef :: undef :: undef :: undef :: undef :: undef :: undef :: undef :: undef :: undef :: undef :: undef :: undef :: undef :: undef :: undef :: undef :: undef :: undef :: undef :: undef :: undef :: undef :: undef :: undef :: undef :: undef :: undef :: undef :: undef :: undef :: undef :: undef :: undef :: undef :: undef :: undef :: undef :: undef :: undef :: undef :: undef :: undef :: undef :: undef :: undef :: undef :: undef :: undef :: undef :: undef :: undef :: undef :: undef :: undef :: undef :: undef :: undef :: undef :: undef :: undef :: undef :: undef :: undef :: undef :: undef :: undef :: undef :: undef :: undef :: undef :: undef :: undef :: undef :: undef :: undef :: undef :: undef :: undef :: undef :: []), defers := [] }
set_option maxHeartbeats 8000000 in
set_option maxRecDepth 100000 in
theorem mesgBack_raw (g0 : GA) (m0 : Mg) (n m : Int) (A : Option Addr) (cap : Nat) (l : List Nat) (w : World) (hm : IsMsg w g0 m0) (he : m0.ent.c.key.length ≤ 1048576 ∧ m0.ent.c.val.length ≤ 1048576 ∧ m0.ent.c.old.length ≤ 1048576) (hl : Rd w w.heap.size A l.length (bv l)) (hlt : ∀ x ∈ l, x < 256) :
    Calls Try.prog 4 #[.agg #[.int .i64 m0.kind, .int .i64 m0.frm, .int .i64 m0.dst, .int .i64 m0.view, .int .i64 m0.inst, .int .i64 m0.len, .bool m0.has, .int .i64 m0.mem, .int .i64 m0.src, .int .i64 m0.pos, .int .i64 m0.tot, .slice g0.Ad m0.data.length g0.cd, .int .i64 m0.hop, .int .i64 m0.seq, .slice g0.Ah m0.hav.length g0.ch, .slice g0.An m0.nee.length g0.cn, .int .i64 m0.idx, .int .i64 m0.ent.s, .int .i64 m0.ent.q, .int .i64 m0.ent.c.kind, .int .i64 m0.ent.c.who, .slice g0.c.Ak m0.ent.c.key.length g0.c.ck, .slice g0.c.Av m0.ent.c.val.length g0.c.cv, .slice g0.c.Ao m0.ent.c.old.length g0.c.co], .int .i64 n, .int .i64 m, .slice A l.length cap] w fun e w' => e = .returned (.bool true) ∧ Below w.heap.size w w' := by
  have AW : Hid (∀ wx, Calls Try.prog 9 #[] wx fun e w' => e = .returned (.bool true) ∧ Below wx.heap.size wx w') := Lib.hid (mesgAwake encode11 decode11 (fun w _ _ _ _ _ _ h1 h2 h3 h4 => same11 w h1 h2 h3 h4))
  have HM := Lib.hid hm
  have HE := Lib.hid he
  have HL := Lib.hid hl
  have HLT := Lib.hid hlt
  clear hm he hl hlt
  go_enter Try.func4, Try.ntmps4
  go_upto_region 1 with fail
  have b1 : Below w.heap.size w (w.alloc (.cells #[.int .i64 m0.kind, .int .i64 m0.frm, .int .i64 m0.dst, .int .i64 m0.view, .int .i64 m0.inst, .int .i64 m0.len, .bool m0.has, .int .i64 m0.mem, .int .i64 m0.src, .int .i64 m0.pos, .int .i64 m0.tot, .slice g0.Ad m0.data.length g0.cd, .int .i64 m0.hop, .int .i64 m0.seq, .slice g0.Ah m0.hav.length g0.ch, .slice g0.An m0.nee.length g0.cn, .int .i64 m0.idx, .int .i64 m0.ent.s, .int .i64 m0.ent.q, .int .i64 m0.ent.c.kind, .int .i64 m0.ent.c.who, .slice g0.c.Ak m0.ent.c.key.length g0.c.ck, .slice g0.c.Av m0.ent.c.val.length g0.c.cv, .slice g0.c.Ao m0.ent.c.old.length g0.c.co] 29)) := (Below.refl _ _).alloc (Nat.le_refl _) _
  have k1 : Blk (w.alloc (.cells #[.int .i64 m0.kind, .int .i64 m0.frm, .int .i64 m0.dst, .int .i64 m0.view, .int .i64 m0.inst, .int .i64 m0.len, .bool m0.has, .int .i64 m0.mem, .int .i64 m0.src, .int .i64 m0.pos, .int .i64 m0.tot, .slice g0.Ad m0.data.length g0.cd, .int .i64 m0.hop, .int .i64 m0.seq, .slice g0.Ah m0.hav.length g0.ch, .slice g0.An m0.nee.length g0.cn, .int .i64 m0.idx, .int .i64 m0.ent.s, .int .i64 m0.ent.q, .int .i64 m0.ent.c.kind, .int .i64 m0.ent.c.who, .slice g0.c.Ak m0.ent.c.key.length g0.c.ck, .slice g0.c.Av m0.ent.c.val.length g0.c.cv, .slice g0.c.Ao m0.ent.c.old.length g0.c.co] 29)) w.heap.size 29 #[.int .i64 m0.kind, .int .i64 m0.frm, .int .i64 m0.dst, .int .i64 m0.view, .int .i64 m0.inst, .int .i64 m0.len, .bool m0.has, .int .i64 m0.mem, .int .i64 m0.src, .int .i64 m0.pos, .int .i64 m0.tot, .slice g0.Ad m0.data.length g0.cd, .int .i64 m0.hop, .int .i64 m0.seq, .slice g0.Ah m0.hav.length g0.ch, .slice g0.An m0.nee.length g0.cn, .int .i64 m0.idx, .int .i64 m0.ent.s, .int .i64 m0.ent.q, .int .i64 m0.ent.c.kind, .int .i64 m0.ent.c.who, .slice g0.c.Ak m0.ent.c.key.length g0.c.ck, .slice g0.c.Av m0.ent.c.val.length g0.c.cv, .slice g0.c.Ao m0.ent.c.old.length g0.c.co] := Blk.new w 29 #[.int .i64 m0.kind, .int .i64 m0.frm, .int .i64 m0.dst, .int .i64 m0.view, .int .i64 m0.inst, .int .i64 m0.len, .bool m0.has, .int .i64 m0.mem, .int .i64 m0.src, .int .i64 m0.pos, .int .i64 m0.tot, .slice g0.Ad m0.data.length g0.cd, .int .i64 m0.hop, .int .i64 m0.seq, .slice g0.Ah m0.hav.length g0.ch, .slice g0.An m0.nee.length g0.cn, .int .i64 m0.idx, .int .i64 m0.ent.s, .int .i64 m0.ent.q, .int .i64 m0.ent.c.kind, .int .i64 m0.ent.c.who, .slice g0.c.Ak m0.ent.c.key.length g0.c.ck, .slice g0.c.Av m0.ent.c.val.length g0.c.cv, .slice g0.c.Ao m0.ent.c.old.length g0.c.co]
  obtain ⟨g, hg⟩ : ∃ g, w.heap.size = g := ⟨_, rfl⟩
  generalize w.alloc (.cells #[.int .i64 m0.kind, .int .i64 m0.frm, .int .i64 m0.dst, .int .i64 m0.view, .int .i64 m0.inst, .int .i64 m0.len, .bool m0.has, .int .i64 m0.mem, .int .i64 m0.src, .int .i64 m0.pos, .int .i64 m0.tot, .slice g0.Ad m0.data.length g0.cd, .int .i64 m0.hop, .int .i64 m0.seq, .slice g0.Ah m0.hav.length g0.ch, .slice g0.An m0.nee.length g0.cn, .int .i64 m0.idx, .int .i64 m0.ent.s, .int .i64 m0.ent.q, .int .i64 m0.ent.c.kind, .int .i64 m0.ent.c.who, .slice g0.c.Ak m0.ent.c.key.length g0.c.ck, .slice g0.c.Av m0.ent.c.val.length g0.c.cv, .slice g0.c.Ao m0.ent.c.old.length g0.c.co] 29) = w1 at b1 k1 ⊢
  have HB1 := Lib.hid b1
  have HM1 := Lib.hid (HM.out.rd.below b1)
  have HL1 := Lib.hid (HL.out.below b1)
  rw [hg] at k1 ⊢
  have HK1 := Lib.hid k1
  have HG := Lib.hid hg
  clear hg b1
  have y11 : w1.cell? ⟨g, 11, none⟩ = some (.slice g0.Ad m0.data.length g0.cd) := k1.cell 11
  have y14 : w1.cell? ⟨g, 14, none⟩ = some (.slice g0.Ah m0.hav.length g0.ch) := k1.cell 14
  have y15 : w1.cell? ⟨g, 15, none⟩ = some (.slice g0.An m0.nee.length g0.cn) := k1.cell 15
  clear k1
  obtain ⟨D1, d1⟩ : ∃ D : Bool, decide ((200 : Int) < (l.length : Int)) = D := ⟨_, rfl⟩
  obtain ⟨D2, d2⟩ : ∃ D : Bool, decide ((100 : Int) < (m0.data.length : Int)) = D := ⟨_, rfl⟩
  obtain ⟨D3, d3⟩ : ∃ D : Bool, decide ((20 : Int) < (m0.hav.length : Int)) = D := ⟨_, rfl⟩
  obtain ⟨D4, d4⟩ : ∃ D : Bool, decide ((20 : Int) < (m0.nee.length : Int)) = D := ⟨_, rfl⟩
  cases D1 with
  | true =>
    go_wp2_with (first
      | (go_at_call 9; refine (AW.out _).mono ?_; rintro e w6 ⟨rfl, hb6⟩)
      | fail)
    go_ret
    exact ⟨rfl, HB1.out.trans (hb6.mono HB1.out.size)⟩
  | false =>
  cases D2 with
  | true =>
    go_wp2_with (first
      | (go_at_call 9; refine (AW.out _).mono ?_; rintro e w6 ⟨rfl, hb6⟩)
      | fail)
    go_ret
    exact ⟨rfl, HB1.out.trans (hb6.mono HB1.out.size)⟩
  | false =>
  cases D3 with
  | true =>
    go_wp2_with (first
      | (go_at_call 9; refine (AW.out _).mono ?_; rintro e w6 ⟨rfl, hb6⟩)
      | fail)
    go_ret
    exact ⟨rfl, HB1.out.trans (hb6.mono HB1.out.size)⟩
  | false =>
  cases D4 with
  | true =>
    go_wp2_with (first
      | (go_at_call 9; refine (AW.out _).mono ?_; rintro e w6 ⟨rfl, hb6⟩)
      | fail)
    go_ret
    exact ⟨rfl, HB1.out.trans (hb6.mono HB1.out.size)⟩
  | false =>
  go_upto_region 3 with fail
  obtain ⟨MM, hMM⟩ : ∃ M, mgOf n m = M := ⟨_, rfl⟩
  have CM := Lib.hid (fun wx => hMM ▸ msg_any n m wx)
  have HMM := Lib.hid hMM
  clear hMM
  go_cut [44, 45, 46] from 18 to 46 (fun s44 s45 s46 wx => ∃ b, s44 = .slice (some ⟨b, 0, none⟩) 2 2 ∧ s45 = .int .i64 2 ∧ s46 = .int .i64 0 ∧ Hid (Tab2 wx b g0 m0 MM) ∧ Hid (Below w1.heap.size w1 wx))
  case first =>
    refine region_invF (U0 := fun _ => undef) (frame3 n m g _ _ _ _ _ _ _ _ _ _ _ _ _ _ _ _ _ _ _ _ _ _ _) dst3 deps3 (V3 g0 m0 MM n m) (Fr3 g n m) ?hm ?hb ?inj ?dst ?deps ?put ?ev ?fr (V3.ext g0 m0 MM n m) (Below.refl _ _) ?hok ?done
    case hok =>
      refine all_ops (AllFrom.cons ?s0 (AllFrom.cons ?s1 (AllFrom.cons ?s2 (AllFrom.cons ?s3 (AllFrom.cons ?s4 (AllFrom.cons ?s5 (AllFrom.cons ?s6 AllFrom.nil)))))))
      case s0 =>
        intro a w2 hF hB hdep K hK
        have q : Blk w2 g 29 #[.int .i64 m0.kind, .int .i64 m0.frm, .int .i64 m0.dst, .int .i64 m0.view, .int .i64 m0.inst, .int .i64 m0.len, .bool m0.has, .int .i64 m0.mem, .int .i64 m0.src, .int .i64 m0.pos, .int .i64 m0.tot, .slice g0.Ad m0.data.length g0.cd, .int .i64 m0.hop, .int .i64 m0.seq, .slice g0.Ah m0.hav.length g0.ch, .slice g0.An m0.nee.length g0.cn, .int .i64 m0.idx, .int .i64 m0.ent.s, .int .i64 m0.ent.q, .int .i64 m0.ent.c.kind, .int .i64 m0.ent.c.who, .slice g0.c.Ak m0.ent.c.key.length g0.c.ck, .slice g0.c.Av m0.ent.c.val.length g0.c.cv, .slice g0.c.Ao m0.ent.c.old.length g0.c.co] := HK1.out.below hB
        refine wp_load_row 29 (.tmp 4) rfl g hF.2.2 29 #[.int .i64 m0.kind, .int .i64 m0.frm, .int .i64 m0.dst, .int .i64 m0.view, .int .i64 m0.inst, .int .i64 m0.len, .bool m0.has, .int .i64 m0.mem, .int .i64 m0.src, .int .i64 m0.pos, .int .i64 m0.tot, .slice g0.Ad m0.data.length g0.cd, .int .i64 m0.hop, .int .i64 m0.seq, .slice g0.Ah m0.hav.length g0.ch, .slice g0.An m0.nee.length g0.cn, .int .i64 m0.idx, .int .i64 m0.ent.s, .int .i64 m0.ent.q, .int .i64 m0.ent.c.kind, .int .i64 m0.ent.c.who, .slice g0.c.Ak m0.ent.c.key.length g0.c.ck, .slice g0.c.Av m0.ent.c.val.length g0.c.cv, .slice g0.c.Ao m0.ent.c.old.length g0.c.co] (0, 0) _ q rfl rfl rfl ?_
        exact hK.out _ _ (Ext.refl _) hB rfl
      case s1 =>
        intro a w2 hF hB hdep K hK
        have e : a.tmps[1]?.getD undef = .int .i64 n := ev_tmp3 hF.1
        go_simp
        exact hK.out _ _ (Ext.refl _) hB rfl
      case s2 =>
        intro a w2 hF hB hdep K hK
        have e : a.tmps[2]?.getD undef = .int .i64 m := ev_tmp3 hF.2.1
        go_simp
        exact hK.out _ _ (Ext.refl _) hB rfl
      case s3 =>
        intro a w2 hF hB hdep K hK
        have e1 : a.tmps[41]?.getD undef = .int .i64 n := ev_tmp3 (hdep 1 (by decide))
        have e2 : a.tmps[42]?.getD undef = .int .i64 m := ev_tmp3 (hdep 2 (by decide))
        go_simp
        go_at_call 10
        refine (CM.out _).mono ?_
        rintro e w3 ⟨ga, rfl, hr, hb⟩
        go_simp
        exact hK.out _ _ (Ext.of_below hb) (hB.trans (hb.mono hB.size)) ⟨ga, rfl, hr⟩
      case s4 => exact step3_build _ rfl
      case s5 =>
        intro a w2 hF hB hdep K hK
        obtain ⟨b, e1, h2⟩ : ∃ b, a.eval (.tmp 44) = .slice (some ⟨b, 0, none⟩) 2 2 ∧ Tab2 w2 b g0 m0 MM := hdep 4 (by decide)
        have e1 : a.tmps[44]?.getD undef = .slice (some ⟨b, 0, none⟩) 2 2 := ev_tmp3 e1
        go_simp
        exact hK.out _ _ (Ext.refl _) hB rfl
      case s6 =>
        intro a w2 hF hB hdep K hK
        go_simp
        exact hK.out _ _ (Ext.refl _) hB rfl
    case hm => kernel_rfl
    case hb => kernel_rfl
    case inj =>
      intro i j hi hj h
      have h1 : ((List.range 7).all fun i => (List.range 7).all fun j => !(dst3 i == dst3 j) || (i == j)) = true := by kernel_rfl
      have h2 := List.all_eq_true.1 (List.all_eq_true.1 h1 i (List.mem_range.2 hi)) j (List.mem_range.2 hj)
      simpa [h] using h2
    case dst => exact all_ops (AllFrom.cons ⟨rfl, rfl⟩ (AllFrom.cons ⟨rfl, rfl⟩ (AllFrom.cons ⟨rfl, rfl⟩ (AllFrom.cons ⟨rfl, rfl⟩ (AllFrom.cons ⟨rfl, rfl⟩ (AllFrom.cons ⟨rfl, rfl⟩ (AllFrom.cons ⟨rfl, rfl⟩ AllFrom.nil)))))))
    case deps =>
      intro i hi j hj
      refine deps_of3 (deps := deps3) ?_ i hi j hj
      kernel_rfl
    case put => exact all_ops (AllFrom.cons (fun _ _ => by kernel_rfl) (AllFrom.cons (fun _ _ => by kernel_rfl) (AllFrom.cons (fun _ _ => by kernel_rfl) (AllFrom.cons (fun _ _ => by kernel_rfl) (AllFrom.cons (fun _ _ => by kernel_rfl) (AllFrom.cons (fun _ _ => by kernel_rfl) (AllFrom.cons (fun _ _ => by kernel_rfl) AllFrom.nil)))))))
    case ev => exact all_ops (AllFrom.cons (fun _ => by kernel_rfl) (AllFrom.cons (fun _ => by kernel_rfl) (AllFrom.cons (fun _ => by kernel_rfl) (AllFrom.cons (fun _ => by kernel_rfl) (AllFrom.cons (fun _ => by kernel_rfl) (AllFrom.cons (fun _ => by kernel_rfl) (AllFrom.cons (fun _ => by kernel_rfl) AllFrom.nil)))))))
    case fr => exact fun U => ⟨by kernel_rfl, by kernel_rfl, by kernel_rfl⟩
    case done =>
      intro U w' hB hV
      obtain ⟨b, e1, h2⟩ : ∃ b, U 44 = .slice (some ⟨b, 0, none⟩) 2 2 ∧ Tab2 w' b g0 m0 MM := hV 4 (by decide)
      have e2 : U 45 = .int .i64 2 := hV 5 (by decide)
      have e3 : U 46 = .int .i64 0 := hV 6 (by decide)
      unfold frame3
      rw [e1, e2, e3]
      have HT2 := Lib.hid h2
      have HB2 := Lib.hid hB
      clear hV e1 e2 e3 h2 hB
      go_wp2_with fail
      go_meet
      exact ⟨b, rfl, rfl, rfl, HT2, HB2⟩
  case rest =>
    obtain ⟨b, rfl, rfl, rfl, HT, HB2⟩ := hcut
    rename World => w2
    have HB3 := Lib.hid (HB1.out.trans (HB2.out.mono HB1.out.size))
    have HMR := Lib.hid HM.out.rd
    have HWD0 : Hid m0.Wide := Lib.hid ⟨⟨by have := of_decide_eq_false d2; omega, HM.out.d⟩, by have := of_decide_eq_false d3; omega, by have := of_decide_eq_false d4; omega, ⟨⟨by have := HE.out.1; omega, HM.out.c.key⟩, ⟨by have := HE.out.2.1; omega, HM.out.c.val⟩, ⟨by have := HE.out.2.2; omega, HM.out.c.old⟩⟩⟩
    have HWD1 : Hid MM.Wide := Lib.hid (by rw [← HMM.out]; exact mgOf_wide n m)
    have HL200 : Hid (l.length ≤ 200) := Lib.hid (by have := of_decide_eq_false d1; omega)
    clear HB2 HK1 HM1 y11 y14 y15 d1 d2 d3 d4 CM HM HE HMM
    go_wp2_with fail
    go_loopw [46] (fun s46 wr => ∃ k : Nat, k ≤ 2 ∧ s46 = .int .i64 k ∧ Hid (Tab2 wr b g0 m0 MM) ∧ Hid (Below w.heap.size w wr)) (fun s46 _ => 2 - (intOf s46).toNat)
    case atStart => exact ⟨0, by omega, rfl, HT, HB3⟩
    case round =>
      obtain ⟨k, hk, rfl, HT, HB⟩ := hrel
      by_cases hlt : k < 2
      · have hki : (k : Int) < 2 := by omega
        obtain ⟨a, M, hrow, hrd, hwd⟩ := row2 HT.out HB.out HMR.out HWD0.out HWD1.out hlt
        have HQ := Lib.hid (show wr.rangeAt b (k * 24) [.int .i64 M.kind, .int .i64 M.frm, .int .i64 M.dst, .int .i64 M.view, .int .i64 M.inst, .int .i64 M.len, .bool M.has, .int .i64 M.mem, .int .i64 M.src, .int .i64 M.pos, .int .i64 M.tot, .slice a.Ad M.data.length a.cd, .int .i64 M.hop, .int .i64 M.seq, .slice a.Ah M.hav.length a.ch, .slice a.An M.nee.length a.cn, .int .i64 M.idx, .int .i64 M.ent.s, .int .i64 M.ent.q, .int .i64 M.ent.c.kind, .int .i64 M.ent.c.who, .slice a.c.Ak M.ent.c.key.length a.c.ck, .slice a.c.Av M.ent.c.val.length a.c.cv, .slice a.c.Ao M.ent.c.old.length a.c.co] from fun t v h => hrow t v (by rw [← Array.getElem?_toList]; exact h))
        have HR := Lib.hid hrd
        have HWD := Lib.hid hwd
        have HZ := Lib.hid (Blk.new wr 29 #[.int .i64 0, .int .i64 0, .int .i64 0, .int .i64 0, .int .i64 0, .int .i64 0, .bool false, .int .i64 0, .int .i64 0, .int .i64 0, .int .i64 0, .slice none 0 0, .int .i64 0, .int .i64 0, .slice none 0 0, .slice none 0 0, .int .i64 0, .int .i64 0, .int .i64 0, .int .i64 0, .int .i64 0, .slice none 0 0, .slice none 0 0, .slice none 0 0])
        have HLK := Lib.hid hk
        have HLT2 := Lib.hid hlt
        clear hrow hrd hwd
        go_upto_region 6 with (first
          | (refine wpList_load_mid rfl 29 (.tmp 48) rfl b (k * 24) rfl [.int .i64 M.kind, .int .i64 M.frm, .int .i64 M.dst, .int .i64 M.view, .int .i64 M.inst, .int .i64 M.len, .bool M.has, .int .i64 M.mem, .int .i64 M.src, .int .i64 M.pos, .int .i64 M.tot, .slice a.Ad M.data.length a.cd, .int .i64 M.hop, .int .i64 M.seq, .slice a.Ah M.hav.length a.ch, .slice a.An M.nee.length a.cn, .int .i64 M.idx, .int .i64 M.ent.s, .int .i64 M.ent.q, .int .i64 M.ent.c.kind, .int .i64 M.ent.c.who, .slice a.c.Ak M.ent.c.key.length a.c.ck, .slice a.c.Av M.ent.c.val.length a.c.cv, .slice a.c.Ao M.ent.c.old.length a.c.co] _ HQ.out rfl rfl rfl ?_)
          | (refine wpList_store_row rfl 29 (.tmp 10) (.tmp 49) rfl wr.heap.size #[.int .i64 M.kind, .int .i64 M.frm, .int .i64 M.dst, .int .i64 M.view, .int .i64 M.inst, .int .i64 M.len, .bool M.has, .int .i64 M.mem, .int .i64 M.src, .int .i64 M.pos, .int .i64 M.tot, .slice a.Ad M.data.length a.cd, .int .i64 M.hop, .int .i64 M.seq, .slice a.Ah M.hav.length a.ch, .slice a.An M.nee.length a.cn, .int .i64 M.idx, .int .i64 M.ent.s, .int .i64 M.ent.q, .int .i64 M.ent.c.kind, .int .i64 M.ent.c.who, .slice a.c.Ak M.ent.c.key.length a.c.ck, .slice a.c.Av M.ent.c.val.length a.c.cv, .slice a.c.Ao M.ent.c.old.length a.c.co] rfl rfl 29 #[.int .i64 0, .int .i64 0, .int .i64 0, .int .i64 0, .int .i64 0, .int .i64 0, .bool false, .int .i64 0, .int .i64 0, .int .i64 0, .int .i64 0, .slice none 0 0, .int .i64 0, .int .i64 0, .slice none 0 0, .slice none 0 0, .int .i64 0, .int .i64 0, .int .i64 0, .int .i64 0, .int .i64 0, .slice none 0 0, .slice none 0 0, .slice none 0 0] HZ.out (by kernel_rfl) rfl (by kernel_rfl) ?_)
          | fail)
        have b3 : Below wr.heap.size wr ((wr.alloc (.cells #[.int .i64 0, .int .i64 0, .int .i64 0, .int .i64 0, .int .i64 0, .int .i64 0, .bool false, .int .i64 0, .int .i64 0, .int .i64 0, .int .i64 0, .slice none 0 0, .int .i64 0, .int .i64 0, .slice none 0 0, .slice none 0 0, .int .i64 0, .int .i64 0, .int .i64 0, .int .i64 0, .int .i64 0, .slice none 0 0, .slice none 0 0, .slice none 0 0] 29)).setRow wr.heap.size #[.int .i64 M.kind, .int .i64 M.frm, .int .i64 M.dst, .int .i64 M.view, .int .i64 M.inst, .int .i64 M.len, .bool M.has, .int .i64 M.mem, .int .i64 M.src, .int .i64 M.pos, .int .i64 M.tot, .slice a.Ad M.data.length a.cd, .int .i64 M.hop, .int .i64 M.seq, .slice a.Ah M.hav.length a.ch, .slice a.An M.nee.length a.cn, .int .i64 M.idx, .int .i64 M.ent.s, .int .i64 M.ent.q, .int .i64 M.ent.c.kind, .int .i64 M.ent.c.who, .slice a.c.Ak M.ent.c.key.length a.c.ck, .slice a.c.Av M.ent.c.val.length a.c.cv, .slice a.c.Ao M.ent.c.old.length a.c.co]) := below_setRow ((Below.refl _ _).alloc (Nat.le_refl _) _) (Nat.le_refl _) _
        have k3 := HZ.out.row #[.int .i64 M.kind, .int .i64 M.frm, .int .i64 M.dst, .int .i64 M.view, .int .i64 M.inst, .int .i64 M.len, .bool M.has, .int .i64 M.mem, .int .i64 M.src, .int .i64 M.pos, .int .i64 M.tot, .slice a.Ad M.data.length a.cd, .int .i64 M.hop, .int .i64 M.seq, .slice a.Ah M.hav.length a.ch, .slice a.An M.nee.length a.cn, .int .i64 M.idx, .int .i64 M.ent.s, .int .i64 M.ent.q, .int .i64 M.ent.c.kind, .int .i64 M.ent.c.who, .slice a.c.Ak M.ent.c.key.length a.c.ck, .slice a.c.Av M.ent.c.val.length a.c.cv, .slice a.c.Ao M.ent.c.old.length a.c.co]
        obtain ⟨gx, hgx⟩ : ∃ gx, wr.heap.size = gx := ⟨_, rfl⟩
        generalize (wr.alloc (.cells #[.int .i64 0, .int .i64 0, .int .i64 0, .int .i64 0, .int .i64 0, .int .i64 0, .bool false, .int .i64 0, .int .i64 0, .int .i64 0, .int .i64 0, .slice none 0 0, .int .i64 0, .int .i64 0, .slice none 0 0, .slice none 0 0, .int .i64 0, .int .i64 0, .int .i64 0, .int .i64 0, .int .i64 0, .slice none 0 0, .slice none 0 0, .slice none 0 0] 29)).setRow wr.heap.size #[.int .i64 M.kind, .int .i64 M.frm, .int .i64 M.dst, .int .i64 M.view, .int .i64 M.inst, .int .i64 M.len, .bool M.has, .int .i64 M.mem, .int .i64 M.src, .int .i64 M.pos, .int .i64 M.tot, .slice a.Ad M.data.length a.cd, .int .i64 M.hop, .int .i64 M.seq, .slice a.Ah M.hav.length a.ch, .slice a.An M.nee.length a.cn, .int .i64 M.idx, .int .i64 M.ent.s, .int .i64 M.ent.q, .int .i64 M.ent.c.kind, .int .i64 M.ent.c.who, .slice a.c.Ak M.ent.c.key.length a.c.ck, .slice a.c.Av M.ent.c.val.length a.c.cv, .slice a.c.Ao M.ent.c.old.length a.c.co] = w3 at b3 k3 ⊢
        have HB3 := Lib.hid (HB.out.trans (b3.mono HB.out.size))
        have HT3 := Lib.hid (HT.out.ext (Ext.of_below b3))
        have HR3 := Lib.hid (HR.out.below' b3)
        rw [hgx] at k3 ⊢
        have HX := Lib.hid k3
        clear hgx b3 k3 HR HB HT HQ HZ
        obtain ⟨L, hL⟩ : ∃ L, M.enc = L := ⟨_, rfl⟩
        have C2 : Hid (Calls Try.prog 12 #[.agg #[.int .i64 M.kind, .int .i64 M.frm, .int .i64 M.dst, .int .i64 M.view, .int .i64 M.inst, .int .i64 M.len, .bool M.has, .int .i64 M.mem, .int .i64 M.src, .int .i64 M.pos, .int .i64 M.tot, .slice a.Ad M.data.length a.cd, .int .i64 M.hop, .int .i64 M.seq, .slice a.Ah M.hav.length a.ch, .slice a.An M.nee.length a.cn, .int .i64 M.idx, .int .i64 M.ent.s, .int .i64 M.ent.q, .int .i64 M.ent.c.kind, .int .i64 M.ent.c.who, .slice a.c.Ak M.ent.c.key.length a.c.ck, .slice a.c.Av M.ent.c.val.length a.c.cv, .slice a.c.Ao M.ent.c.old.length a.c.co]] w3 (GotIn w3 w3 L)) := Lib.hid (encode11.is (a := a) (m := M) hL HWD.out HR3.out (Below.refl _ _))
        have HL9 := Lib.hid hL
        clear hL
        go_upto_region 7 with (first
          | (refine wpList_load_rowG rfl 29 (.tmp 10) rfl gx rfl 29 #[.int .i64 M.kind, .int .i64 M.frm, .int .i64 M.dst, .int .i64 M.view, .int .i64 M.inst, .int .i64 M.len, .bool M.has, .int .i64 M.mem, .int .i64 M.src, .int .i64 M.pos, .int .i64 M.tot, .slice a.Ad M.data.length a.cd, .int .i64 M.hop, .int .i64 M.seq, .slice a.Ah M.hav.length a.ch, .slice a.An M.nee.length a.cn, .int .i64 M.idx, .int .i64 M.ent.s, .int .i64 M.ent.q, .int .i64 M.ent.c.kind, .int .i64 M.ent.c.who, .slice a.c.Ak M.ent.c.key.length a.c.ck, .slice a.c.Av M.ent.c.val.length a.c.cv, .slice a.c.Ao M.ent.c.old.length a.c.co] (0, 0) _ HX.out rfl rfl rfl ?_)
          | (go_at_call 12; refine C2.out.mono ?_; rintro e w4 ⟨A3, c3, rfl, ho3, hB4, hb4⟩
             have HO4 := Lib.hid ho3
             have HX4 := Lib.hid (HX.out.below hb4)
             have HT4 := Lib.hid (HT3.out.ext (Ext.of_below hb4))
             have HB4 := Lib.hid (HB3.out.trans (hb4.mono HB3.out.size))
             clear ho3 hB4 hb4 C2)
          | fail)
        cases hok : M.ok with
        | false =>
          have h0 : L = [] := by rw [← HL9.out]; exact Mg.enc_none hok
          subst h0
          clear hok
          go_wp2_with fail
          go_roundw
          case rel => exact ⟨k + 1, by have := HLT2.out; omega, by go_num, HT4, HB4⟩
          case measure => simp [intOf]; have := HLT2.out; omega
        | true =>
          have HOK := Lib.hid hok
          have hpos : ((L.length : Int) == 0) = false := by
            have h1 := Mg.enc_some hok
            rw [HL9.out] at h1
            have := List.length_pos_iff.2 h1
            simp; exact h1
          clear hok
          have C3 : Hid (Calls Try.prog 15 #[.slice A3 L.length c3] w4 (GotG w4 w4 (some M.bare))) := Lib.hid (decode11.is (by rw [← HL9.out]; exact (Mg.bare_facts HOK.out HWD.out).2.2.2.2) (by rw [← HL9.out]; have := Mg.enc_len HOK.out; omega) (by rw [← HL9.out]; exact Mg.enc_lt HOK.out HWD.out) (Rd.own_ HO4.out) (Below.refl _ _))
          obtain ⟨MB, hMB⟩ : ∃ x, M.bare = x := ⟨_, rfl⟩
          rw [hMB] at C3
          have HMB := Lib.hid hMB
          clear hMB
          go_upto_region 9 with (first
            | (go_at_call 15; refine C3.out.mono ?_; rintro e w5 ⟨az, he, ho5, hB5, hb5⟩
               have he2 : e = .returned (.tuple #[.agg #[.int .i64 MB.kind, .int .i64 MB.frm, .int .i64 MB.dst, .int .i64 MB.view, .int .i64 MB.inst, .int .i64 MB.len, .bool MB.has, .int .i64 MB.mem, .int .i64 MB.src, .int .i64 MB.pos, .int .i64 MB.tot, .slice az.Ad MB.data.length az.cd, .int .i64 MB.hop, .int .i64 MB.seq, .slice az.Ah MB.hav.length az.ch, .slice az.An MB.nee.length az.cn, .int .i64 MB.idx, .int .i64 MB.ent.s, .int .i64 MB.ent.q, .int .i64 MB.ent.c.kind, .int .i64 MB.ent.c.who, .slice az.c.Ak MB.ent.c.key.length az.c.ck, .slice az.c.Av MB.ent.c.val.length az.c.cv, .slice az.c.Ao MB.ent.c.old.length az.c.co], .bool true]) := by rw [he]; rfl
               clear he
               subst he2
               have HX5 := Lib.hid (HX4.out.below hb5)
               have HB5 := Lib.hid hb5
               have HO5 := Lib.hid ho5
               have Z9 := Lib.hid (Blk.new w5 29 #[.int .i64 0, .int .i64 0, .int .i64 0, .int .i64 0, .int .i64 0, .int .i64 0, .bool false, .int .i64 0, .int .i64 0, .int .i64 0, .int .i64 0, .slice none 0 0, .int .i64 0, .int .i64 0, .slice none 0 0, .slice none 0 0, .int .i64 0, .int .i64 0, .int .i64 0, .int .i64 0, .int .i64 0, .slice none 0 0, .slice none 0 0, .slice none 0 0])
               clear ho5 hB5 hb5 C3)
            | (refine wpList_store_row rfl 29 (.tmp 12) (.tmp 58) rfl w5.heap.size #[.int .i64 MB.kind, .int .i64 MB.frm, .int .i64 MB.dst, .int .i64 MB.view, .int .i64 MB.inst, .int .i64 MB.len, .bool MB.has, .int .i64 MB.mem, .int .i64 MB.src, .int .i64 MB.pos, .int .i64 MB.tot, .slice az.Ad MB.data.length az.cd, .int .i64 MB.hop, .int .i64 MB.seq, .slice az.Ah MB.hav.length az.ch, .slice az.An MB.nee.length az.cn, .int .i64 MB.idx, .int .i64 MB.ent.s, .int .i64 MB.ent.q, .int .i64 MB.ent.c.kind, .int .i64 MB.ent.c.who, .slice az.c.Ak MB.ent.c.key.length az.c.ck, .slice az.c.Av MB.ent.c.val.length az.c.cv, .slice az.c.Ao MB.ent.c.old.length az.c.co] rfl rfl 29 #[.int .i64 0, .int .i64 0, .int .i64 0, .int .i64 0, .int .i64 0, .int .i64 0, .bool false, .int .i64 0, .int .i64 0, .int .i64 0, .int .i64 0, .slice none 0 0, .int .i64 0, .int .i64 0, .slice none 0 0, .slice none 0 0, .int .i64 0, .int .i64 0, .int .i64 0, .int .i64 0, .int .i64 0, .slice none 0 0, .slice none 0 0, .slice none 0 0] Z9.out (by kernel_rfl) rfl (by kernel_rfl) ?_)
            | fail)
          have b6 : Below w5.heap.size w5 ((w5.alloc (.cells #[.int .i64 0, .int .i64 0, .int .i64 0, .int .i64 0, .int .i64 0, .int .i64 0, .bool false, .int .i64 0, .int .i64 0, .int .i64 0, .int .i64 0, .slice none 0 0, .int .i64 0, .int .i64 0, .slice none 0 0, .slice none 0 0, .int .i64 0, .int .i64 0, .int .i64 0, .int .i64 0, .int .i64 0, .slice none 0 0, .slice none 0 0, .slice none 0 0] 29)).setRow w5.heap.size #[.int .i64 MB.kind, .int .i64 MB.frm, .int .i64 MB.dst, .int .i64 MB.view, .int .i64 MB.inst, .int .i64 MB.len, .bool MB.has, .int .i64 MB.mem, .int .i64 MB.src, .int .i64 MB.pos, .int .i64 MB.tot, .slice az.Ad MB.data.length az.cd, .int .i64 MB.hop, .int .i64 MB.seq, .slice az.Ah MB.hav.length az.ch, .slice az.An MB.nee.length az.cn, .int .i64 MB.idx, .int .i64 MB.ent.s, .int .i64 MB.ent.q, .int .i64 MB.ent.c.kind, .int .i64 MB.ent.c.who, .slice az.c.Ak MB.ent.c.key.length az.c.ck, .slice az.c.Av MB.ent.c.val.length az.c.cv, .slice az.c.Ao MB.ent.c.old.length az.c.co]) := below_setRow ((Below.refl _ _).alloc (Nat.le_refl _) _) (Nat.le_refl _) _
          have k6 := Z9.out.row #[.int .i64 MB.kind, .int .i64 MB.frm, .int .i64 MB.dst, .int .i64 MB.view, .int .i64 MB.inst, .int .i64 MB.len, .bool MB.has, .int .i64 MB.mem, .int .i64 MB.src, .int .i64 MB.pos, .int .i64 MB.tot, .slice az.Ad MB.data.length az.cd, .int .i64 MB.hop, .int .i64 MB.seq, .slice az.Ah MB.hav.length az.ch, .slice az.An MB.nee.length az.cn, .int .i64 MB.idx, .int .i64 MB.ent.s, .int .i64 MB.ent.q, .int .i64 MB.ent.c.kind, .int .i64 MB.ent.c.who, .slice az.c.Ak MB.ent.c.key.length az.c.ck, .slice az.c.Av MB.ent.c.val.length az.c.cv, .slice az.c.Ao MB.ent.c.old.length az.c.co]
          obtain ⟨gy, hgy⟩ : ∃ gy, w5.heap.size = gy := ⟨_, rfl⟩
          generalize (w5.alloc (.cells #[.int .i64 0, .int .i64 0, .int .i64 0, .int .i64 0, .int .i64 0, .int .i64 0, .bool false, .int .i64 0, .int .i64 0, .int .i64 0, .int .i64 0, .slice none 0 0, .int .i64 0, .int .i64 0, .slice none 0 0, .slice none 0 0, .int .i64 0, .int .i64 0, .int .i64 0, .int .i64 0, .int .i64 0, .slice none 0 0, .slice none 0 0, .slice none 0 0] 29)).setRow w5.heap.size #[.int .i64 MB.kind, .int .i64 MB.frm, .int .i64 MB.dst, .int .i64 MB.view, .int .i64 MB.inst, .int .i64 MB.len, .bool MB.has, .int .i64 MB.mem, .int .i64 MB.src, .int .i64 MB.pos, .int .i64 MB.tot, .slice az.Ad MB.data.length az.cd, .int .i64 MB.hop, .int .i64 MB.seq, .slice az.Ah MB.hav.length az.ch, .slice az.An MB.nee.length az.cn, .int .i64 MB.idx, .int .i64 MB.ent.s, .int .i64 MB.ent.q, .int .i64 MB.ent.c.kind, .int .i64 MB.ent.c.who, .slice az.c.Ak MB.ent.c.key.length az.c.ck, .slice az.c.Av MB.ent.c.val.length az.c.cv, .slice az.c.Ao MB.ent.c.old.length az.c.co] = w6 at b6 k6 ⊢
          rw [hgy] at k6 ⊢
          have HY := Lib.hid k6
          have HX6 := Lib.hid (HX5.out.below b6)
          have hb46 : Below w4.heap.size w4 w6 := HB5.out.trans (b6.mono HB5.out.size)
          have HB6 := Lib.hid (HB4.out.trans (hb46.mono HB4.out.size))
          have HT6 := Lib.hid (HT4.out.ext (Ext.of_below hb46))
          have HRL := Lib.hid ((Rd.own_ HO4.out).below hb46).fit
          have HRB := Lib.hid ((HO5.out.rd.below b6).fit)
          have FB := Lib.hid (HMB.out ▸ Mg.bare_facts HOK.out HWD.out)
          have CY : Hid (∀ wx, Below w6.heap.size w6 wx → wx.cell? ⟨gy, 0, none⟩ = some (.int .i64 M.kind) ∧ wx.cell? ⟨gy, 1, none⟩ = some (.int .i64 M.frm) ∧ wx.cell? ⟨gy, 2, none⟩ = some (.int .i64 M.dst) ∧ wx.cell? ⟨gy, 3, none⟩ = some (.int .i64 M.view)) := Lib.hid fun wx hb => by
            have hh := Mg.bare_head M
            rw [HMB.out] at hh
            rw [← hh.1, ← hh.2.1, ← hh.2.2.1, ← hh.2.2.2]
            have q := HY.out.below hb
            exact ⟨q.cell 0, q.cell 1, q.cell 2, q.cell 3⟩
          have CE : Hid (∀ wx, Below w6.heap.size w6 wx → Calls Try.prog 12 #[.agg #[.int .i64 MB.kind, .int .i64 MB.frm, .int .i64 MB.dst, .int .i64 MB.view, .int .i64 MB.inst, .int .i64 MB.len, .bool MB.has, .int .i64 MB.mem, .int .i64 MB.src, .int .i64 MB.pos, .int .i64 MB.tot, .slice az.Ad MB.data.length az.cd, .int .i64 MB.hop, .int .i64 MB.seq, .slice az.Ah MB.hav.length az.ch, .slice az.An MB.nee.length az.cn, .int .i64 MB.idx, .int .i64 MB.ent.s, .int .i64 MB.ent.q, .int .i64 MB.ent.c.kind, .int .i64 MB.ent.c.who, .slice az.c.Ak MB.ent.c.key.length az.c.ck, .slice az.c.Av MB.ent.c.val.length az.c.cv, .slice az.c.Ao MB.ent.c.old.length az.c.co]] wx (GotIn wx wx L)) := Lib.hid fun wx hb => encode11.is (a := az) (m := MB) (FB.out.2.1.trans HL9.out) FB.out.2.2.2.1 (HRB.out.below' hb) (Below.refl _ _)
          have HDL : Hid (Mg.dec L = some MB) := Lib.hid (by rw [← HL9.out, ← HMB.out]; exact (Mg.bare_facts HOK.out HWD.out).2.2.2.2)
          have HLN : Hid (L.length ≤ 2000000) := Lib.hid (by rw [← HL9.out]; have := Mg.enc_len HOK.out; omega)
          have HLB : Hid (∀ x ∈ L, x < 256) := Lib.hid (by rw [← HL9.out]; exact Mg.enc_lt HOK.out HWD.out)
          clear hgy b6 k6 hb46 HX4 HX5 HB4 HB5 HT4 HT3 HB3 HR3 HX Z9 HO4 HO5
          go_cut [97] from 60 to 97 (fun s97 wx => s97 = .bool false ∧ Hid (Below w6.heap.size w6 wx))
          case first =>
            refine region_invG (U0 := fun i => ([u60, u61, u62, u63, u64, u65, u66, u67, u68, u69, u70, u71, u72, u73, u74, u75, u76, u77, u78, u79, u80, u81, u82, u83, u84, u85, u86, u87, u88, u89, u90, u91, u92, u93, u94, u95, u96, u97] : List Value).getD (i - 60) undef) (frame9 gx gy A3 c3 L _ _ _ _ _ _ _ _ _ _ _ _ _ _ _ _ _ _ _ _ _ _ _ _ _ _ _ _ _ _ _ _ _ _ _ _ _ _ _ _ _ _ _ _ _ _ _ _ _ _ _ _ _ _ _ _ _ _ _ _ _ _ _ _ _ _ _ _ _ _ _ _ _ _ _ _ _ _ _ _ _ _ _ _ _ _ _ _ _ _ _ _ _ _ _ _ _) dst9 deps9 (fun _ => true) (V9 (kinds9 gx gy M MB az A3 c3 L)) (Fr9 gx gy A3 L.length c3) ?hm ?hb ?inj ?dst ?deps ?want ?put ?ev ?fr (V9.ext _) (Below.refl _ _) ?hok ?done
            case hok =>
              refine all_ops (AllFrom.cons ?s0 (AllFrom.cons ?s1 (AllFrom.cons ?s2 (AllFrom.cons ?s3 (AllFrom.cons ?s4 (AllFrom.cons ?s5 (AllFrom.cons ?s6 (AllFrom.cons ?s7 (AllFrom.cons ?s8 (AllFrom.cons ?s9 (AllFrom.cons ?s10 (AllFrom.cons ?s11 (AllFrom.cons ?s12 (AllFrom.cons ?s13 (AllFrom.cons ?s14 (AllFrom.cons ?s15 (AllFrom.cons ?s16 (AllFrom.cons ?s17 (AllFrom.cons ?s18 (AllFrom.cons ?s19 (AllFrom.cons ?s20 (AllFrom.cons ?s21 (AllFrom.cons ?s22 (AllFrom.cons ?s23 (AllFrom.cons ?s24 (AllFrom.cons ?s25 (AllFrom.cons ?s26 (AllFrom.cons ?s27 (AllFrom.cons ?s28 (AllFrom.cons ?s29 (AllFrom.cons ?s30 (AllFrom.cons ?s31 (AllFrom.cons ?s32 (AllFrom.cons ?s33 (AllFrom.cons ?s34 (AllFrom.cons ?s35 (AllFrom.cons ?s36 (AllFrom.cons ?s37 AllFrom.nil))))))))))))))))))))))))))))))))))))))
              case s0 =>
                intro a w1 hF hB hdep K hK
                rw [if_pos rfl]
                have f13 : a.tmps[13]?.getD undef = .bool true := ev_tmp3 hF.2.2.2
                go_simp
                exact hK.out _ _ (Ext.refl _) hB rfl
              case s1 =>
                intro a w1 hF hB hdep K hK
                rw [if_pos rfl]
                have e0 : a.tmps[60]?.getD undef = .bool true := ev_tmp3 (show a.eval (.tmp 60) = .bool true from hdep 0 (by decide))
                go_simp
                exact hK.out _ _ (Ext.refl _) hB rfl
              case s2 =>
                intro a w1 hF hB hdep K hK
                rw [if_pos rfl]
                have e1 : a.tmps[61]?.getD undef = .bool false := ev_tmp3 (show a.eval (.tmp 61) = .bool false from hdep 1 (by decide))
                go_simp
                exact hK.out _ _ (Ext.refl _) hB rfl
              case s3 =>
                intro a w1 hF hB hdep K hK
                rw [if_pos rfl]
                have f12 : a.tmps[12]?.getD undef = .pointer (some ⟨gy, 0, none⟩) := ev_tmp3 hF.2.2.1
                go_simp
                exact hK.out _ _ (Ext.refl _) hB rfl
              case s4 =>
                intro a w1 hF hB hdep K hK
                rw [if_pos rfl]
                have e3 : a.tmps[63]?.getD undef = .pointer (some ⟨gy, 0, none⟩) := ev_tmp3 (show a.eval (.tmp 63) = .pointer (some ⟨gy, 0, none⟩) from hdep 3 (by decide))
                have c : w1.cell? ⟨gy, 0, none⟩ = some (.int .i64 M.kind) := (CY.out _ hB).1
                go_simp
                exact hK.out _ _ (Ext.refl _) hB rfl
              case s5 =>
                intro a w1 hF hB hdep K hK
                rw [if_pos rfl]
                have f10 : a.tmps[10]?.getD undef = .pointer (some ⟨gx, 0, none⟩) := ev_tmp3 hF.1
                go_simp
                exact hK.out _ _ (Ext.refl _) hB rfl
              case s6 =>
                intro a w1 hF hB hdep K hK
                rw [if_pos rfl]
                have e5 : a.tmps[65]?.getD undef = .pointer (some ⟨gx, 0, none⟩) := ev_tmp3 (show a.eval (.tmp 65) = .pointer (some ⟨gx, 0, none⟩) from hdep 5 (by decide))
                have c : w1.cell? ⟨gx, 0, none⟩ = some (.int .i64 M.kind) := (HX6.out.below hB).cell 0
                go_simp
                exact hK.out _ _ (Ext.refl _) hB rfl
              case s7 =>
                intro a w1 hF hB hdep K hK
                rw [if_pos rfl]
                have e4 : a.tmps[64]?.getD undef = .int .i64 M.kind := ev_tmp3 (show a.eval (.tmp 64) = .int .i64 M.kind from hdep 4 (by decide))
                have e6 : a.tmps[66]?.getD undef = .int .i64 M.kind := ev_tmp3 (show a.eval (.tmp 66) = .int .i64 M.kind from hdep 6 (by decide))
                go_simp
                exact hK.out _ _ (Ext.refl _) hB rfl
              case s8 =>
                intro a w1 hF hB hdep K hK
                rw [if_pos rfl]
                have e2 : a.tmps[62]?.getD undef = .bool false := ev_tmp3 (show a.eval (.tmp 62) = .bool false from hdep 2 (by decide))
                have e7 : a.tmps[67]?.getD undef = .bool false := ev_tmp3 (show a.eval (.tmp 67) = .bool false from hdep 7 (by decide))
                go_simp
                exact hK.out _ _ (Ext.refl _) hB rfl
              case s9 =>
                intro a w1 hF hB hdep K hK
                rw [if_pos rfl]
                have e8 : a.tmps[68]?.getD undef = .bool false := ev_tmp3 (show a.eval (.tmp 68) = .bool false from hdep 8 (by decide))
                go_simp
                exact hK.out _ _ (Ext.refl _) hB rfl
              case s10 =>
                intro a w1 hF hB hdep K hK
                rw [if_pos rfl]
                have f12 : a.tmps[12]?.getD undef = .pointer (some ⟨gy, 0, none⟩) := ev_tmp3 hF.2.2.1
                go_simp
                exact hK.out _ _ (Ext.refl _) hB rfl
              case s11 =>
                intro a w1 hF hB hdep K hK
                rw [if_pos rfl]
                have e10 : a.tmps[70]?.getD undef = .pointer (some ⟨gy, 1, none⟩) := ev_tmp3 (show a.eval (.tmp 70) = .pointer (some ⟨gy, 1, none⟩) from hdep 10 (by decide))
                have c : w1.cell? ⟨gy, 1, none⟩ = some (.int .i64 M.frm) := (CY.out _ hB).2.1
                go_simp
                exact hK.out _ _ (Ext.refl _) hB rfl
              case s12 =>
                intro a w1 hF hB hdep K hK
                rw [if_pos rfl]
                have f10 : a.tmps[10]?.getD undef = .pointer (some ⟨gx, 0, none⟩) := ev_tmp3 hF.1
                go_simp
                exact hK.out _ _ (Ext.refl _) hB rfl
              case s13 =>
                intro a w1 hF hB hdep K hK
                rw [if_pos rfl]
                have e12 : a.tmps[72]?.getD undef = .pointer (some ⟨gx, 1, none⟩) := ev_tmp3 (show a.eval (.tmp 72) = .pointer (some ⟨gx, 1, none⟩) from hdep 12 (by decide))
                have c : w1.cell? ⟨gx, 1, none⟩ = some (.int .i64 M.frm) := (HX6.out.below hB).cell 1
                go_simp
                exact hK.out _ _ (Ext.refl _) hB rfl
              case s14 =>
                intro a w1 hF hB hdep K hK
                rw [if_pos rfl]
                have e11 : a.tmps[71]?.getD undef = .int .i64 M.frm := ev_tmp3 (show a.eval (.tmp 71) = .int .i64 M.frm from hdep 11 (by decide))
                have e13 : a.tmps[73]?.getD undef = .int .i64 M.frm := ev_tmp3 (show a.eval (.tmp 73) = .int .i64 M.frm from hdep 13 (by decide))
                go_simp
                exact hK.out _ _ (Ext.refl _) hB rfl
              case s15 =>
                intro a w1 hF hB hdep K hK
                rw [if_pos rfl]
                have e9 : a.tmps[69]?.getD undef = .bool false := ev_tmp3 (show a.eval (.tmp 69) = .bool false from hdep 9 (by decide))
                have e14 : a.tmps[74]?.getD undef = .bool false := ev_tmp3 (show a.eval (.tmp 74) = .bool false from hdep 14 (by decide))
                go_simp
                exact hK.out _ _ (Ext.refl _) hB rfl
              case s16 =>
                intro a w1 hF hB hdep K hK
                rw [if_pos rfl]
                have e15 : a.tmps[75]?.getD undef = .bool false := ev_tmp3 (show a.eval (.tmp 75) = .bool false from hdep 15 (by decide))
                go_simp
                exact hK.out _ _ (Ext.refl _) hB rfl
              case s17 =>
                intro a w1 hF hB hdep K hK
                rw [if_pos rfl]
                have f12 : a.tmps[12]?.getD undef = .pointer (some ⟨gy, 0, none⟩) := ev_tmp3 hF.2.2.1
                go_simp
                exact hK.out _ _ (Ext.refl _) hB rfl
              case s18 =>
                intro a w1 hF hB hdep K hK
                rw [if_pos rfl]
                have e17 : a.tmps[77]?.getD undef = .pointer (some ⟨gy, 2, none⟩) := ev_tmp3 (show a.eval (.tmp 77) = .pointer (some ⟨gy, 2, none⟩) from hdep 17 (by decide))
                have c : w1.cell? ⟨gy, 2, none⟩ = some (.int .i64 M.dst) := (CY.out _ hB).2.2.1
                go_simp
                exact hK.out _ _ (Ext.refl _) hB rfl
              case s19 =>
                intro a w1 hF hB hdep K hK
                rw [if_pos rfl]
                have f10 : a.tmps[10]?.getD undef = .pointer (some ⟨gx, 0, none⟩) := ev_tmp3 hF.1
                go_simp
                exact hK.out _ _ (Ext.refl _) hB rfl
              case s20 =>
                intro a w1 hF hB hdep K hK
                rw [if_pos rfl]
                have e19 : a.tmps[79]?.getD undef = .pointer (some ⟨gx, 2, none⟩) := ev_tmp3 (show a.eval (.tmp 79) = .pointer (some ⟨gx, 2, none⟩) from hdep 19 (by decide))
                have c : w1.cell? ⟨gx, 2, none⟩ = some (.int .i64 M.dst) := (HX6.out.below hB).cell 2
                go_simp
                exact hK.out _ _ (Ext.refl _) hB rfl
              case s21 =>
                intro a w1 hF hB hdep K hK
                rw [if_pos rfl]
                have e18 : a.tmps[78]?.getD undef = .int .i64 M.dst := ev_tmp3 (show a.eval (.tmp 78) = .int .i64 M.dst from hdep 18 (by decide))
                have e20 : a.tmps[80]?.getD undef = .int .i64 M.dst := ev_tmp3 (show a.eval (.tmp 80) = .int .i64 M.dst from hdep 20 (by decide))
                go_simp
                exact hK.out _ _ (Ext.refl _) hB rfl
              case s22 =>
                intro a w1 hF hB hdep K hK
                rw [if_pos rfl]
                have e16 : a.tmps[76]?.getD undef = .bool false := ev_tmp3 (show a.eval (.tmp 76) = .bool false from hdep 16 (by decide))
                have e21 : a.tmps[81]?.getD undef = .bool false := ev_tmp3 (show a.eval (.tmp 81) = .bool false from hdep 21 (by decide))
                go_simp
                exact hK.out _ _ (Ext.refl _) hB rfl
              case s23 =>
                intro a w1 hF hB hdep K hK
                rw [if_pos rfl]
                have e22 : a.tmps[82]?.getD undef = .bool false := ev_tmp3 (show a.eval (.tmp 82) = .bool false from hdep 22 (by decide))
                go_simp
                exact hK.out _ _ (Ext.refl _) hB rfl
              case s24 =>
                intro a w1 hF hB hdep K hK
                rw [if_pos rfl]
                have f12 : a.tmps[12]?.getD undef = .pointer (some ⟨gy, 0, none⟩) := ev_tmp3 hF.2.2.1
                go_simp
                exact hK.out _ _ (Ext.refl _) hB rfl
              case s25 =>
                intro a w1 hF hB hdep K hK
                rw [if_pos rfl]
                have e24 : a.tmps[84]?.getD undef = .pointer (some ⟨gy, 3, none⟩) := ev_tmp3 (show a.eval (.tmp 84) = .pointer (some ⟨gy, 3, none⟩) from hdep 24 (by decide))
                have c : w1.cell? ⟨gy, 3, none⟩ = some (.int .i64 M.view) := (CY.out _ hB).2.2.2
                go_simp
                exact hK.out _ _ (Ext.refl _) hB rfl
              case s26 =>
                intro a w1 hF hB hdep K hK
                rw [if_pos rfl]
                have f10 : a.tmps[10]?.getD undef = .pointer (some ⟨gx, 0, none⟩) := ev_tmp3 hF.1
                go_simp
                exact hK.out _ _ (Ext.refl _) hB rfl
              case s27 =>
                intro a w1 hF hB hdep K hK
                rw [if_pos rfl]
                have e26 : a.tmps[86]?.getD undef = .pointer (some ⟨gx, 3, none⟩) := ev_tmp3 (show a.eval (.tmp 86) = .pointer (some ⟨gx, 3, none⟩) from hdep 26 (by decide))
                have c : w1.cell? ⟨gx, 3, none⟩ = some (.int .i64 M.view) := (HX6.out.below hB).cell 3
                go_simp
                exact hK.out _ _ (Ext.refl _) hB rfl
              case s28 =>
                intro a w1 hF hB hdep K hK
                rw [if_pos rfl]
                have e25 : a.tmps[85]?.getD undef = .int .i64 M.view := ev_tmp3 (show a.eval (.tmp 85) = .int .i64 M.view from hdep 25 (by decide))
                have e27 : a.tmps[87]?.getD undef = .int .i64 M.view := ev_tmp3 (show a.eval (.tmp 87) = .int .i64 M.view from hdep 27 (by decide))
                go_simp
                exact hK.out _ _ (Ext.refl _) hB rfl
              case s29 =>
                intro a w1 hF hB hdep K hK
                rw [if_pos rfl]
                have e23 : a.tmps[83]?.getD undef = .bool false := ev_tmp3 (show a.eval (.tmp 83) = .bool false from hdep 23 (by decide))
                have e28 : a.tmps[88]?.getD undef = .bool false := ev_tmp3 (show a.eval (.tmp 88) = .bool false from hdep 28 (by decide))
                go_simp
                exact hK.out _ _ (Ext.refl _) hB rfl
              case s30 =>
                intro a w1 hF hB hdep K hK
                rw [if_pos rfl]
                have e29 : a.tmps[89]?.getD undef = .bool false := ev_tmp3 (show a.eval (.tmp 89) = .bool false from hdep 29 (by decide))
                go_simp
                exact hK.out _ _ (Ext.refl _) hB rfl
              case s31 =>
                intro a w1 hF hB hdep K hK
                rw [if_pos rfl]
                refine wp_load_row 29 (.tmp 12) rfl gy hF.2.2.1 29 #[.int .i64 MB.kind, .int .i64 MB.frm, .int .i64 MB.dst, .int .i64 MB.view, .int .i64 MB.inst, .int .i64 MB.len, .bool MB.has, .int .i64 MB.mem, .int .i64 MB.src, .int .i64 MB.pos, .int .i64 MB.tot, .slice az.Ad MB.data.length az.cd, .int .i64 MB.hop, .int .i64 MB.seq, .slice az.Ah MB.hav.length az.ch, .slice az.An MB.nee.length az.cn, .int .i64 MB.idx, .int .i64 MB.ent.s, .int .i64 MB.ent.q, .int .i64 MB.ent.c.kind, .int .i64 MB.ent.c.who, .slice az.c.Ak MB.ent.c.key.length az.c.ck, .slice az.c.Av MB.ent.c.val.length az.c.cv, .slice az.c.Ao MB.ent.c.old.length az.c.co] (0, 0) _ (HY.out.below hB) rfl rfl rfl ?_
                exact hK.out _ _ (Ext.refl _) hB rfl
              case s32 =>
                intro a w1 hF hB hdep K hK
                rw [if_pos rfl]
                have e31 : a.tmps[91]?.getD undef = .agg #[.int .i64 MB.kind, .int .i64 MB.frm, .int .i64 MB.dst, .int .i64 MB.view, .int .i64 MB.inst, .int .i64 MB.len, .bool MB.has, .int .i64 MB.mem, .int .i64 MB.src, .int .i64 MB.pos, .int .i64 MB.tot, .slice az.Ad MB.data.length az.cd, .int .i64 MB.hop, .int .i64 MB.seq, .slice az.Ah MB.hav.length az.ch, .slice az.An MB.nee.length az.cn, .int .i64 MB.idx, .int .i64 MB.ent.s, .int .i64 MB.ent.q, .int .i64 MB.ent.c.kind, .int .i64 MB.ent.c.who, .slice az.c.Ak MB.ent.c.key.length az.c.ck, .slice az.c.Av MB.ent.c.val.length az.c.cv, .slice az.c.Ao MB.ent.c.old.length az.c.co] := ev_tmp3 (show a.eval (.tmp 91) = .agg #[.int .i64 MB.kind, .int .i64 MB.frm, .int .i64 MB.dst, .int .i64 MB.view, .int .i64 MB.inst, .int .i64 MB.len, .bool MB.has, .int .i64 MB.mem, .int .i64 MB.src, .int .i64 MB.pos, .int .i64 MB.tot, .slice az.Ad MB.data.length az.cd, .int .i64 MB.hop, .int .i64 MB.seq, .slice az.Ah MB.hav.length az.ch, .slice az.An MB.nee.length az.cn, .int .i64 MB.idx, .int .i64 MB.ent.s, .int .i64 MB.ent.q, .int .i64 MB.ent.c.kind, .int .i64 MB.ent.c.who, .slice az.c.Ak MB.ent.c.key.length az.c.ck, .slice az.c.Av MB.ent.c.val.length az.c.cv, .slice az.c.Ao MB.ent.c.old.length az.c.co] from hdep 31 (by decide))
                go_simp
                go_at_call 12
                refine (CE.out _ hB).mono ?_
                rintro e w2 ⟨A9, c9, rfl, ho, hB9, hb⟩
                go_simp
                exact hK.out _ _ (Ext.of_below hb) (hB.trans (hb.mono hB.size)) ⟨A9, c9, rfl, Rd.own_ ho⟩
              case s33 =>
                intro a w1 hF hB hdep K hK
                rw [if_pos rfl]
                obtain ⟨A9, c9, e32, hr⟩ : ∃ A9 c9, a.eval (.tmp 92) = .slice A9 L.length c9 ∧ Rd w1 w1.heap.size A9 L.length (bv L) := hdep 32 (by decide)
                have e32 : a.tmps[92]?.getD undef = .slice A9 L.length c9 := ev_tmp3 e32
                have q := str_of (c := c9) hr
                go_simp
                exact hK.out _ _ (Ext.refl _) hB rfl
              case s34 =>
                intro a w1 hF hB hdep K hK
                rw [if_pos rfl]
                have f11 : a.tmps[11]?.getD undef = .slice A3 L.length c3 := ev_tmp3 hF.2.1
                go_simp
                exact hK.out _ _ (Ext.refl _) hB rfl
              case s35 =>
                intro a w1 hF hB hdep K hK
                rw [if_pos rfl]
                have e34 : a.tmps[94]?.getD undef = .slice A3 L.length c3 := ev_tmp3 (show a.eval (.tmp 94) = .slice A3 L.length c3 from hdep 34 (by decide))
                have q := str_of (c := c3) (HRL.out.below hB)
                go_simp
                exact hK.out _ _ (Ext.refl _) hB rfl
              case s36 =>
                intro a w1 hF hB hdep K hK
                rw [if_pos rfl]
                have e33 : a.tmps[93]?.getD undef = .string (strB L) := ev_tmp3 (show a.eval (.tmp 93) = .string (strB L) from hdep 33 (by decide))
                have e35 : a.tmps[95]?.getD undef = .string (strB L) := ev_tmp3 (show a.eval (.tmp 95) = .string (strB L) from hdep 35 (by decide))
                go_simp
                exact hK.out _ _ (Ext.refl _) hB rfl
              case s37 =>
                intro a w1 hF hB hdep K hK
                rw [if_pos rfl]
                have e30 : a.tmps[90]?.getD undef = .bool false := ev_tmp3 (show a.eval (.tmp 90) = .bool false from hdep 30 (by decide))
                have e36 : a.tmps[96]?.getD undef = .bool false := ev_tmp3 (show a.eval (.tmp 96) = .bool false from hdep 36 (by decide))
                go_simp
                exact hK.out _ _ (Ext.refl _) hB rfl
            case hm => kernel_rfl
            case hb => kernel_rfl
            case inj =>
              intro i j hi hj h
              have h1 : ((List.range 38).all fun i => (List.range 38).all fun j => !(dst9 i == dst9 j) || (i == j)) = true := by kernel_rfl
              have h2 := List.all_eq_true.1 (List.all_eq_true.1 h1 i (List.mem_range.2 hi)) j (List.mem_range.2 hj)
              simpa [h] using h2
            case dst => exact all_ops (AllFrom.cons rfl (AllFrom.cons rfl (AllFrom.cons rfl (AllFrom.cons rfl (AllFrom.cons rfl (AllFrom.cons rfl (AllFrom.cons rfl (AllFrom.cons rfl (AllFrom.cons rfl (AllFrom.cons rfl (AllFrom.cons rfl (AllFrom.cons rfl (AllFrom.cons rfl (AllFrom.cons rfl (AllFrom.cons rfl (AllFrom.cons rfl (AllFrom.cons rfl (AllFrom.cons rfl (AllFrom.cons rfl (AllFrom.cons rfl (AllFrom.cons rfl (AllFrom.cons rfl (AllFrom.cons rfl (AllFrom.cons rfl (AllFrom.cons rfl (AllFrom.cons rfl (AllFrom.cons rfl (AllFrom.cons rfl (AllFrom.cons rfl (AllFrom.cons rfl (AllFrom.cons rfl (AllFrom.cons rfl (AllFrom.cons rfl (AllFrom.cons rfl (AllFrom.cons rfl (AllFrom.cons rfl (AllFrom.cons rfl (AllFrom.cons rfl AllFrom.nil))))))))))))))))))))))))))))))))))))))
            case deps =>
              intro i hi j hj
              refine deps_of3 (deps := deps9) ?_ i hi j hj
              kernel_rfl
            case want => exact all_ops (AllFrom.cons (fun U w hd => rfl) (AllFrom.cons (fun U w hd => rfl) (AllFrom.cons (fun U w hd => rfl) (AllFrom.cons (fun U w hd => wanted_of rfl (yielded_of (s := 62) (b := false) rfl ((show _ = some (U 62) from by kernel_rfl).trans (congrArg some (show U 62 = .bool false from hd 2 (by decide))))) rfl) (AllFrom.cons (fun U w hd => wanted_of rfl (yielded_of (s := 62) (b := false) rfl ((show _ = some (U 62) from by kernel_rfl).trans (congrArg some (show U 62 = .bool false from hd 2 (by decide))))) rfl) (AllFrom.cons (fun U w hd => wanted_of rfl (yielded_of (s := 62) (b := false) rfl ((show _ = some (U 62) from by kernel_rfl).trans (congrArg some (show U 62 = .bool false from hd 2 (by decide))))) rfl) (AllFrom.cons (fun U w hd => wanted_of rfl (yielded_of (s := 62) (b := false) rfl ((show _ = some (U 62) from by kernel_rfl).trans (congrArg some (show U 62 = .bool false from hd 2 (by decide))))) rfl) (AllFrom.cons (fun U w hd => wanted_of rfl (yielded_of (s := 62) (b := false) rfl ((show _ = some (U 62) from by kernel_rfl).trans (congrArg some (show U 62 = .bool false from hd 2 (by decide))))) rfl) (AllFrom.cons (fun U w hd => rfl) (AllFrom.cons (fun U w hd => rfl) (AllFrom.cons (fun U w hd => wanted_of rfl (yielded_of (s := 69) (b := false) rfl ((show _ = some (U 69) from by kernel_rfl).trans (congrArg some (show U 69 = .bool false from hd 9 (by decide))))) rfl) (AllFrom.cons (fun U w hd => wanted_of rfl (yielded_of (s := 69) (b := false) rfl ((show _ = some (U 69) from by kernel_rfl).trans (congrArg some (show U 69 = .bool false from hd 9 (by decide))))) rfl) (AllFrom.cons (fun U w hd => wanted_of rfl (yielded_of (s := 69) (b := false) rfl ((show _ = some (U 69) from by kernel_rfl).trans (congrArg some (show U 69 = .bool false from hd 9 (by decide))))) rfl) (AllFrom.cons (fun U w hd => wanted_of rfl (yielded_of (s := 69) (b := false) rfl ((show _ = some (U 69) from by kernel_rfl).trans (congrArg some (show U 69 = .bool false from hd 9 (by decide))))) rfl) (AllFrom.cons (fun U w hd => wanted_of rfl (yielded_of (s := 69) (b := false) rfl ((show _ = some (U 69) from by kernel_rfl).trans (congrArg some (show U 69 = .bool false from hd 9 (by decide))))) rfl) (AllFrom.cons (fun U w hd => rfl) (AllFrom.cons (fun U w hd => rfl) (AllFrom.cons (fun U w hd => wanted_of rfl (yielded_of (s := 76) (b := false) rfl ((show _ = some (U 76) from by kernel_rfl).trans (congrArg some (show U 76 = .bool false from hd 16 (by decide))))) rfl) (AllFrom.cons (fun U w hd => wanted_of rfl (yielded_of (s := 76) (b := false) rfl ((show _ = some (U 76) from by kernel_rfl).trans (congrArg some (show U 76 = .bool false from hd 16 (by decide))))) rfl) (AllFrom.cons (fun U w hd => wanted_of rfl (yielded_of (s := 76) (b := false) rfl ((show _ = some (U 76) from by kernel_rfl).trans (congrArg some (show U 76 = .bool false from hd 16 (by decide))))) rfl) (AllFrom.cons (fun U w hd => wanted_of rfl (yielded_of (s := 76) (b := false) rfl ((show _ = some (U 76) from by kernel_rfl).trans (congrArg some (show U 76 = .bool false from hd 16 (by decide))))) rfl) (AllFrom.cons (fun U w hd => wanted_of rfl (yielded_of (s := 76) (b := false) rfl ((show _ = some (U 76) from by kernel_rfl).trans (congrArg some (show U 76 = .bool false from hd 16 (by decide))))) rfl) (AllFrom.cons (fun U w hd => rfl) (AllFrom.cons (fun U w hd => rfl) (AllFrom.cons (fun U w hd => wanted_of rfl (yielded_of (s := 83) (b := false) rfl ((show _ = some (U 83) from by kernel_rfl).trans (congrArg some (show U 83 = .bool false from hd 23 (by decide))))) rfl) (AllFrom.cons (fun U w hd => wanted_of rfl (yielded_of (s := 83) (b := false) rfl ((show _ = some (U 83) from by kernel_rfl).trans (congrArg some (show U 83 = .bool false from hd 23 (by decide))))) rfl) (AllFrom.cons (fun U w hd => wanted_of rfl (yielded_of (s := 83) (b := false) rfl ((show _ = some (U 83) from by kernel_rfl).trans (congrArg some (show U 83 = .bool false from hd 23 (by decide))))) rfl) (AllFrom.cons (fun U w hd => wanted_of rfl (yielded_of (s := 83) (b := false) rfl ((show _ = some (U 83) from by kernel_rfl).trans (congrArg some (show U 83 = .bool false from hd 23 (by decide))))) rfl) (AllFrom.cons (fun U w hd => wanted_of rfl (yielded_of (s := 83) (b := false) rfl ((show _ = some (U 83) from by kernel_rfl).trans (congrArg some (show U 83 = .bool false from hd 23 (by decide))))) rfl) (AllFrom.cons (fun U w hd => rfl) (AllFrom.cons (fun U w hd => rfl) (AllFrom.cons (fun U w hd => wanted_of rfl (yielded_of (s := 90) (b := false) rfl ((show _ = some (U 90) from by kernel_rfl).trans (congrArg some (show U 90 = .bool false from hd 30 (by decide))))) rfl) (AllFrom.cons (fun U w hd => wanted_of rfl (yielded_of (s := 90) (b := false) rfl ((show _ = some (U 90) from by kernel_rfl).trans (congrArg some (show U 90 = .bool false from hd 30 (by decide))))) rfl) (AllFrom.cons (fun U w hd => wanted_of rfl (yielded_of (s := 90) (b := false) rfl ((show _ = some (U 90) from by kernel_rfl).trans (congrArg some (show U 90 = .bool false from hd 30 (by decide))))) rfl) (AllFrom.cons (fun U w hd => wanted_of rfl (yielded_of (s := 90) (b := false) rfl ((show _ = some (U 90) from by kernel_rfl).trans (congrArg some (show U 90 = .bool false from hd 30 (by decide))))) rfl) (AllFrom.cons (fun U w hd => wanted_of rfl (yielded_of (s := 90) (b := false) rfl ((show _ = some (U 90) from by kernel_rfl).trans (congrArg some (show U 90 = .bool false from hd 30 (by decide))))) rfl) (AllFrom.cons (fun U w hd => wanted_of rfl (yielded_of (s := 90) (b := false) rfl ((show _ = some (U 90) from by kernel_rfl).trans (congrArg some (show U 90 = .bool false from hd 30 (by decide))))) rfl) (AllFrom.cons (fun U w hd => rfl) AllFrom.nil))))))))))))))))))))))))))))))))))))))
            case put => exact all_ops (AllFrom.cons (fun _ _ => by kernel_rfl) (AllFrom.cons (fun _ _ => by kernel_rfl) (AllFrom.cons (fun _ _ => by kernel_rfl) (AllFrom.cons (fun _ _ => by kernel_rfl) (AllFrom.cons (fun _ _ => by kernel_rfl) (AllFrom.cons (fun _ _ => by kernel_rfl) (AllFrom.cons (fun _ _ => by kernel_rfl) (AllFrom.cons (fun _ _ => by kernel_rfl) (AllFrom.cons (fun _ _ => by kernel_rfl) (AllFrom.cons (fun _ _ => by kernel_rfl) (AllFrom.cons (fun _ _ => by kernel_rfl) (AllFrom.cons (fun _ _ => by kernel_rfl) (AllFrom.cons (fun _ _ => by kernel_rfl) (AllFrom.cons (fun _ _ => by kernel_rfl) (AllFrom.cons (fun _ _ => by kernel_rfl) (AllFrom.cons (fun _ _ => by kernel_rfl) (AllFrom.cons (fun _ _ => by kernel_rfl) (AllFrom.cons (fun _ _ => by kernel_rfl) (AllFrom.cons (fun _ _ => by kernel_rfl) (AllFrom.cons (fun _ _ => by kernel_rfl) (AllFrom.cons (fun _ _ => by kernel_rfl) (AllFrom.cons (fun _ _ => by kernel_rfl) (AllFrom.cons (fun _ _ => by kernel_rfl) (AllFrom.cons (fun _ _ => by kernel_rfl) (AllFrom.cons (fun _ _ => by kernel_rfl) (AllFrom.cons (fun _ _ => by kernel_rfl) (AllFrom.cons (fun _ _ => by kernel_rfl) (AllFrom.cons (fun _ _ => by kernel_rfl) (AllFrom.cons (fun _ _ => by kernel_rfl) (AllFrom.cons (fun _ _ => by kernel_rfl) (AllFrom.cons (fun _ _ => by kernel_rfl) (AllFrom.cons (fun _ _ => by kernel_rfl) (AllFrom.cons (fun _ _ => by kernel_rfl) (AllFrom.cons (fun _ _ => by kernel_rfl) (AllFrom.cons (fun _ _ => by kernel_rfl) (AllFrom.cons (fun _ _ => by kernel_rfl) (AllFrom.cons (fun _ _ => by kernel_rfl) (AllFrom.cons (fun _ _ => by kernel_rfl) AllFrom.nil))))))))))))))))))))))))))))))))))))))
            case ev => exact all_ops (AllFrom.cons (fun _ => by kernel_rfl) (AllFrom.cons (fun _ => by kernel_rfl) (AllFrom.cons (fun _ => by kernel_rfl) (AllFrom.cons (fun _ => by kernel_rfl) (AllFrom.cons (fun _ => by kernel_rfl) (AllFrom.cons (fun _ => by kernel_rfl) (AllFrom.cons (fun _ => by kernel_rfl) (AllFrom.cons (fun _ => by kernel_rfl) (AllFrom.cons (fun _ => by kernel_rfl) (AllFrom.cons (fun _ => by kernel_rfl) (AllFrom.cons (fun _ => by kernel_rfl) (AllFrom.cons (fun _ => by kernel_rfl) (AllFrom.cons (fun _ => by kernel_rfl) (AllFrom.cons (fun _ => by kernel_rfl) (AllFrom.cons (fun _ => by kernel_rfl) (AllFrom.cons (fun _ => by kernel_rfl) (AllFrom.cons (fun _ => by kernel_rfl) (AllFrom.cons (fun _ => by kernel_rfl) (AllFrom.cons (fun _ => by kernel_rfl) (AllFrom.cons (fun _ => by kernel_rfl) (AllFrom.cons (fun _ => by kernel_rfl) (AllFrom.cons (fun _ => by kernel_rfl) (AllFrom.cons (fun _ => by kernel_rfl) (AllFrom.cons (fun _ => by kernel_rfl) (AllFrom.cons (fun _ => by kernel_rfl) (AllFrom.cons (fun _ => by kernel_rfl) (AllFrom.cons (fun _ => by kernel_rfl) (AllFrom.cons (fun _ => by kernel_rfl) (AllFrom.cons (fun _ => by kernel_rfl) (AllFrom.cons (fun _ => by kernel_rfl) (AllFrom.cons (fun _ => by kernel_rfl) (AllFrom.cons (fun _ => by kernel_rfl) (AllFrom.cons (fun _ => by kernel_rfl) (AllFrom.cons (fun _ => by kernel_rfl) (AllFrom.cons (fun _ => by kernel_rfl) (AllFrom.cons (fun _ => by kernel_rfl) (AllFrom.cons (fun _ => by kernel_rfl) (AllFrom.cons (fun _ => by kernel_rfl) AllFrom.nil))))))))))))))))))))))))))))))))))))))
            case fr => exact fun U => ⟨by kernel_rfl, by kernel_rfl, by kernel_rfl, by kernel_rfl⟩
            case done =>
              intro U w' hB hV
              have e1 : U 97 = .bool false := hV 37 (by decide)
              unfold frame9
              rw [e1]
              have HB9 := Lib.hid hB
              clear hV e1 hB
              go_wp2_with fail
              go_meet
              exact ⟨rfl, HB9⟩
          case rest =>
            obtain ⟨rfl, HB7⟩ := hcut
            rename World => w7
            have HY7 := Lib.hid (HY.out.below HB7.out)
            have HR7 := Lib.hid (HRB.out.below' HB7.out)
            have C5 : Hid (Calls Try.prog 12 #[.agg #[.int .i64 MB.kind, .int .i64 MB.frm, .int .i64 MB.dst, .int .i64 MB.view, .int .i64 MB.inst, .int .i64 MB.len, .bool MB.has, .int .i64 MB.mem, .int .i64 MB.src, .int .i64 MB.pos, .int .i64 MB.tot, .slice az.Ad MB.data.length az.cd, .int .i64 MB.hop, .int .i64 MB.seq, .slice az.Ah MB.hav.length az.ch, .slice az.An MB.nee.length az.cn, .int .i64 MB.idx, .int .i64 MB.ent.s, .int .i64 MB.ent.q, .int .i64 MB.ent.c.kind, .int .i64 MB.ent.c.who, .slice az.c.Ak MB.ent.c.key.length az.c.ck, .slice az.c.Av MB.ent.c.val.length az.c.cv, .slice az.c.Ao MB.ent.c.old.length az.c.co]] w7 (GotIn w7 w7 L)) := Lib.hid (CE.out w7 HB7.out)
            have HWB := Lib.hid FB.out.2.2.2.1
            clear CE CY HX6 HRL HRB HY FB
            go_upto_region 12 with (first
              | (refine wpList_load_rowG rfl 29 (.tmp 12) rfl gy rfl 29 #[.int .i64 MB.kind, .int .i64 MB.frm, .int .i64 MB.dst, .int .i64 MB.view, .int .i64 MB.inst, .int .i64 MB.len, .bool MB.has, .int .i64 MB.mem, .int .i64 MB.src, .int .i64 MB.pos, .int .i64 MB.tot, .slice az.Ad MB.data.length az.cd, .int .i64 MB.hop, .int .i64 MB.seq, .slice az.Ah MB.hav.length az.ch, .slice az.An MB.nee.length az.cn, .int .i64 MB.idx, .int .i64 MB.ent.s, .int .i64 MB.ent.q, .int .i64 MB.ent.c.kind, .int .i64 MB.ent.c.who, .slice az.c.Ak MB.ent.c.key.length az.c.ck, .slice az.c.Av MB.ent.c.val.length az.c.cv, .slice az.c.Ao MB.ent.c.old.length az.c.co] (0, 0) _ HY7.out rfl rfl rfl ?_)
              | (go_at_call 12; refine C5.out.mono ?_; rintro e w8 ⟨A5, c5, rfl, ho8, hB8, hb8⟩
                 have HB8 := Lib.hid hb8
                 have C6 : Hid (Calls Try.prog 15 #[.slice A5 L.length c5] w8 (GotG w8 w8 (some MB))) := Lib.hid (decode11.is HDL.out HLN.out HLB.out (Rd.own_ ho8) (Below.refl _ _))
                 clear ho8 hB8 hb8 C5)
              | (go_at_call 15; refine C6.out.mono ?_; rintro e w9 ⟨a2, he, ho9, hB9, hb9⟩
                 have he2 : e = .returned (.tuple #[.agg #[.int .i64 MB.kind, .int .i64 MB.frm, .int .i64 MB.dst, .int .i64 MB.view, .int .i64 MB.inst, .int .i64 MB.len, .bool MB.has, .int .i64 MB.mem, .int .i64 MB.src, .int .i64 MB.pos, .int .i64 MB.tot, .slice a2.Ad MB.data.length a2.cd, .int .i64 MB.hop, .int .i64 MB.seq, .slice a2.Ah MB.hav.length a2.ch, .slice a2.An MB.nee.length a2.cn, .int .i64 MB.idx, .int .i64 MB.ent.s, .int .i64 MB.ent.q, .int .i64 MB.ent.c.kind, .int .i64 MB.ent.c.who, .slice a2.c.Ak MB.ent.c.key.length a2.c.ck, .slice a2.c.Av MB.ent.c.val.length a2.c.cv, .slice a2.c.Ao MB.ent.c.old.length a2.c.co], .bool true]) := by rw [he]; rfl
                 clear he
                 subst he2
                 have HB9 := Lib.hid hb9
                 have HO9 := Lib.hid ho9
                 have Z14 := Lib.hid (Blk.new w9 29 #[.int .i64 0, .int .i64 0, .int .i64 0, .int .i64 0, .int .i64 0, .int .i64 0, .bool false, .int .i64 0, .int .i64 0, .int .i64 0, .int .i64 0, .slice none 0 0, .int .i64 0, .int .i64 0, .slice none 0 0, .slice none 0 0, .int .i64 0, .int .i64 0, .int .i64 0, .int .i64 0, .int .i64 0, .slice none 0 0, .slice none 0 0, .slice none 0 0])
                 clear ho9 hB9 hb9 C6)
              | (refine wpList_store_row rfl 29 (.tmp 14) (.tmp 102) rfl w9.heap.size #[.int .i64 MB.kind, .int .i64 MB.frm, .int .i64 MB.dst, .int .i64 MB.view, .int .i64 MB.inst, .int .i64 MB.len, .bool MB.has, .int .i64 MB.mem, .int .i64 MB.src, .int .i64 MB.pos, .int .i64 MB.tot, .slice a2.Ad MB.data.length a2.cd, .int .i64 MB.hop, .int .i64 MB.seq, .slice a2.Ah MB.hav.length a2.ch, .slice a2.An MB.nee.length a2.cn, .int .i64 MB.idx, .int .i64 MB.ent.s, .int .i64 MB.ent.q, .int .i64 MB.ent.c.kind, .int .i64 MB.ent.c.who, .slice a2.c.Ak MB.ent.c.key.length a2.c.ck, .slice a2.c.Av MB.ent.c.val.length a2.c.cv, .slice a2.c.Ao MB.ent.c.old.length a2.c.co] rfl rfl 29 #[.int .i64 0, .int .i64 0, .int .i64 0, .int .i64 0, .int .i64 0, .int .i64 0, .bool false, .int .i64 0, .int .i64 0, .int .i64 0, .int .i64 0, .slice none 0 0, .int .i64 0, .int .i64 0, .slice none 0 0, .slice none 0 0, .int .i64 0, .int .i64 0, .int .i64 0, .int .i64 0, .int .i64 0, .slice none 0 0, .slice none 0 0, .slice none 0 0] Z14.out (by kernel_rfl) rfl (by kernel_rfl) ?_)
              | fail)
            have b10 : Below w9.heap.size w9 ((w9.alloc (.cells #[.int .i64 0, .int .i64 0, .int .i64 0, .int .i64 0, .int .i64 0, .int .i64 0, .bool false, .int .i64 0, .int .i64 0, .int .i64 0, .int .i64 0, .slice none 0 0, .int .i64 0, .int .i64 0, .slice none 0 0, .slice none 0 0, .int .i64 0, .int .i64 0, .int .i64 0, .int .i64 0, .int .i64 0, .slice none 0 0, .slice none 0 0, .slice none 0 0] 29)).setRow w9.heap.size #[.int .i64 MB.kind, .int .i64 MB.frm, .int .i64 MB.dst, .int .i64 MB.view, .int .i64 MB.inst, .int .i64 MB.len, .bool MB.has, .int .i64 MB.mem, .int .i64 MB.src, .int .i64 MB.pos, .int .i64 MB.tot, .slice a2.Ad MB.data.length a2.cd, .int .i64 MB.hop, .int .i64 MB.seq, .slice a2.Ah MB.hav.length a2.ch, .slice a2.An MB.nee.length a2.cn, .int .i64 MB.idx, .int .i64 MB.ent.s, .int .i64 MB.ent.q, .int .i64 MB.ent.c.kind, .int .i64 MB.ent.c.who, .slice a2.c.Ak MB.ent.c.key.length a2.c.ck, .slice a2.c.Av MB.ent.c.val.length a2.c.cv, .slice a2.c.Ao MB.ent.c.old.length a2.c.co]) := below_setRow ((Below.refl _ _).alloc (Nat.le_refl _) _) (Nat.le_refl _) _
            have k10 := Z14.out.row #[.int .i64 MB.kind, .int .i64 MB.frm, .int .i64 MB.dst, .int .i64 MB.view, .int .i64 MB.inst, .int .i64 MB.len, .bool MB.has, .int .i64 MB.mem, .int .i64 MB.src, .int .i64 MB.pos, .int .i64 MB.tot, .slice a2.Ad MB.data.length a2.cd, .int .i64 MB.hop, .int .i64 MB.seq, .slice a2.Ah MB.hav.length a2.ch, .slice a2.An MB.nee.length a2.cn, .int .i64 MB.idx, .int .i64 MB.ent.s, .int .i64 MB.ent.q, .int .i64 MB.ent.c.kind, .int .i64 MB.ent.c.who, .slice a2.c.Ak MB.ent.c.key.length a2.c.ck, .slice a2.c.Av MB.ent.c.val.length a2.c.cv, .slice a2.c.Ao MB.ent.c.old.length a2.c.co]
            obtain ⟨gz, hgz⟩ : ∃ gz, w9.heap.size = gz := ⟨_, rfl⟩
            generalize (w9.alloc (.cells #[.int .i64 0, .int .i64 0, .int .i64 0, .int .i64 0, .int .i64 0, .int .i64 0, .bool false, .int .i64 0, .int .i64 0, .int .i64 0, .int .i64 0, .slice none 0 0, .int .i64 0, .int .i64 0, .slice none 0 0, .slice none 0 0, .int .i64 0, .int .i64 0, .int .i64 0, .int .i64 0, .int .i64 0, .slice none 0 0, .slice none 0 0, .slice none 0 0] 29)).setRow w9.heap.size #[.int .i64 MB.kind, .int .i64 MB.frm, .int .i64 MB.dst, .int .i64 MB.view, .int .i64 MB.inst, .int .i64 MB.len, .bool MB.has, .int .i64 MB.mem, .int .i64 MB.src, .int .i64 MB.pos, .int .i64 MB.tot, .slice a2.Ad MB.data.length a2.cd, .int .i64 MB.hop, .int .i64 MB.seq, .slice a2.Ah MB.hav.length a2.ch, .slice a2.An MB.nee.length a2.cn, .int .i64 MB.idx, .int .i64 MB.ent.s, .int .i64 MB.ent.q, .int .i64 MB.ent.c.kind, .int .i64 MB.ent.c.who, .slice a2.c.Ak MB.ent.c.key.length a2.c.ck, .slice a2.c.Av MB.ent.c.val.length a2.c.cv, .slice a2.c.Ao MB.ent.c.old.length a2.c.co] = w10 at b10 k10 ⊢
            rw [hgz] at k10 ⊢
            have HZ10 := Lib.hid k10
            have HRZ := Lib.hid ((HO9.out.rd.below b10).fit)
            have hb7 : Below w7.heap.size w7 w10 := HB8.out.trans ((HB9.out.trans (b10.mono HB9.out.size)).mono HB8.out.size)
            have HY10 := Lib.hid (HY7.out.below hb7)
            have C7 : Hid (Calls Try.prog 13 #[.agg #[.int .i64 MB.kind, .int .i64 MB.frm, .int .i64 MB.dst, .int .i64 MB.view, .int .i64 MB.inst, .int .i64 MB.len, .bool MB.has, .int .i64 MB.mem, .int .i64 MB.src, .int .i64 MB.pos, .int .i64 MB.tot, .slice az.Ad MB.data.length az.cd, .int .i64 MB.hop, .int .i64 MB.seq, .slice az.Ah MB.hav.length az.ch, .slice az.An MB.nee.length az.cn, .int .i64 MB.idx, .int .i64 MB.ent.s, .int .i64 MB.ent.q, .int .i64 MB.ent.c.kind, .int .i64 MB.ent.c.who, .slice az.c.Ak MB.ent.c.key.length az.c.ck, .slice az.c.Av MB.ent.c.val.length az.c.cv, .slice az.c.Ao MB.ent.c.old.length az.c.co], .agg #[.int .i64 MB.kind, .int .i64 MB.frm, .int .i64 MB.dst, .int .i64 MB.view, .int .i64 MB.inst, .int .i64 MB.len, .bool MB.has, .int .i64 MB.mem, .int .i64 MB.src, .int .i64 MB.pos, .int .i64 MB.tot, .slice a2.Ad MB.data.length a2.cd, .int .i64 MB.hop, .int .i64 MB.seq, .slice a2.Ah MB.hav.length a2.ch, .slice a2.An MB.nee.length a2.cn, .int .i64 MB.idx, .int .i64 MB.ent.s, .int .i64 MB.ent.q, .int .i64 MB.ent.c.kind, .int .i64 MB.ent.c.who, .slice a2.c.Ak MB.ent.c.key.length a2.c.ck, .slice a2.c.Av MB.ent.c.val.length a2.c.cv, .slice a2.c.Ao MB.ent.c.old.length a2.c.co]] w10 fun e w' => e = .returned (.bool true) ∧ Below w10.heap.size w10 w') := Lib.hid (SameC11.is (fun w _ _ _ _ _ _ h1 h2 h3 h4 => same11 w h1 h2 h3 h4) w10 (a := az) (a' := a2) (m := MB) (m' := MB) (b := true) (by simp) HWB.out HWB.out (HR7.out.below' hb7) HRZ.out)
            have hb67 : Below w6.heap.size w6 w10 := HB7.out.trans (hb7.mono HB7.out.size)
            have HT10 := Lib.hid (HT6.out.ext (Ext.of_below hb67))
            have HB10 := Lib.hid (HB6.out.trans (hb67.mono HB6.out.size))
            clear hgz b10 k10 hb7 hb67 HY7 HR7 HB7 HB8 HB9 HO9 Z14 HT6 HB6 HRZ
            go_upto_region 14 with (first
              | (refine wpList_load_rowG rfl 29 (.tmp 12) rfl gy rfl 29 #[.int .i64 MB.kind, .int .i64 MB.frm, .int .i64 MB.dst, .int .i64 MB.view, .int .i64 MB.inst, .int .i64 MB.len, .bool MB.has, .int .i64 MB.mem, .int .i64 MB.src, .int .i64 MB.pos, .int .i64 MB.tot, .slice az.Ad MB.data.length az.cd, .int .i64 MB.hop, .int .i64 MB.seq, .slice az.Ah MB.hav.length az.ch, .slice az.An MB.nee.length az.cn, .int .i64 MB.idx, .int .i64 MB.ent.s, .int .i64 MB.ent.q, .int .i64 MB.ent.c.kind, .int .i64 MB.ent.c.who, .slice az.c.Ak MB.ent.c.key.length az.c.ck, .slice az.c.Av MB.ent.c.val.length az.c.cv, .slice az.c.Ao MB.ent.c.old.length az.c.co] (0, 0) _ HY10.out rfl rfl rfl ?_)
              | (refine wpList_load_rowG rfl 29 (.tmp 14) rfl gz rfl 29 #[.int .i64 MB.kind, .int .i64 MB.frm, .int .i64 MB.dst, .int .i64 MB.view, .int .i64 MB.inst, .int .i64 MB.len, .bool MB.has, .int .i64 MB.mem, .int .i64 MB.src, .int .i64 MB.pos, .int .i64 MB.tot, .slice a2.Ad MB.data.length a2.cd, .int .i64 MB.hop, .int .i64 MB.seq, .slice a2.Ah MB.hav.length a2.ch, .slice a2.An MB.nee.length a2.cn, .int .i64 MB.idx, .int .i64 MB.ent.s, .int .i64 MB.ent.q, .int .i64 MB.ent.c.kind, .int .i64 MB.ent.c.who, .slice a2.c.Ak MB.ent.c.key.length a2.c.ck, .slice a2.c.Av MB.ent.c.val.length a2.c.cv, .slice a2.c.Ao MB.ent.c.old.length a2.c.co] (0, 0) _ HZ10.out rfl rfl rfl ?_)
              | (go_at_call 13; refine C7.out.mono ?_; rintro e w11 ⟨rfl, hb11⟩
                 have HT11 := Lib.hid (HT10.out.ext (Ext.of_below hb11))
                 have HB11 := Lib.hid (HB10.out.trans (hb11.mono HB10.out.size))
                 clear hb11 C7)
              | fail)
            go_wp2_with fail
            go_roundw
            case rel => exact ⟨k + 1, by have := HLT2.out; omega, by go_num, HT11, HB11⟩
            case measure => simp [intOf]; have := HLT2.out; omega
      · have hk2 : k = 2 := by omega
        subst hk2
        cases hdc : Mg.dec l with
        | some N =>
          have HDC := Lib.hid hdc
          clear hdc
          have C8 : Hid (Calls Try.prog 15 #[.slice A l.length cap] wr (GotG wr wr (some N))) := Lib.hid (decode11.is HDC.out (by have := HL200.out; omega) HLT.out (HL.out.below HB.out) (Below.refl _ _))
          go_upto_region 16 with (first
            | (go_at_call 15; refine C8.out.mono ?_; rintro e w5 ⟨az, he, ho5, hB5, hb5⟩
               have he2 : e = .returned (.tuple #[.agg #[.int .i64 N.kind, .int .i64 N.frm, .int .i64 N.dst, .int .i64 N.view, .int .i64 N.inst, .int .i64 N.len, .bool N.has, .int .i64 N.mem, .int .i64 N.src, .int .i64 N.pos, .int .i64 N.tot, .slice az.Ad N.data.length az.cd, .int .i64 N.hop, .int .i64 N.seq, .slice az.Ah N.hav.length az.ch, .slice az.An N.nee.length az.cn, .int .i64 N.idx, .int .i64 N.ent.s, .int .i64 N.ent.q, .int .i64 N.ent.c.kind, .int .i64 N.ent.c.who, .slice az.c.Ak N.ent.c.key.length az.c.ck, .slice az.c.Av N.ent.c.val.length az.c.cv, .slice az.c.Ao N.ent.c.old.length az.c.co], .bool true]) := by rw [he]; rfl
               clear he
               subst he2
               have HB5 := Lib.hid hb5
               have HO5 := Lib.hid ho5.rd
               have Z9 := Lib.hid (Blk.new w5 29 #[.int .i64 0, .int .i64 0, .int .i64 0, .int .i64 0, .int .i64 0, .int .i64 0, .bool false, .int .i64 0, .int .i64 0, .int .i64 0, .int .i64 0, .slice none 0 0, .int .i64 0, .int .i64 0, .slice none 0 0, .slice none 0 0, .int .i64 0, .int .i64 0, .int .i64 0, .int .i64 0, .int .i64 0, .slice none 0 0, .slice none 0 0, .slice none 0 0])
               clear ho5 hB5 hb5 C8)
            | (refine wpList_store_row rfl 29 (.tmp 16) (.tmp 116) rfl w5.heap.size #[.int .i64 N.kind, .int .i64 N.frm, .int .i64 N.dst, .int .i64 N.view, .int .i64 N.inst, .int .i64 N.len, .bool N.has, .int .i64 N.mem, .int .i64 N.src, .int .i64 N.pos, .int .i64 N.tot, .slice az.Ad N.data.length az.cd, .int .i64 N.hop, .int .i64 N.seq, .slice az.Ah N.hav.length az.ch, .slice az.An N.nee.length az.cn, .int .i64 N.idx, .int .i64 N.ent.s, .int .i64 N.ent.q, .int .i64 N.ent.c.kind, .int .i64 N.ent.c.who, .slice az.c.Ak N.ent.c.key.length az.c.ck, .slice az.c.Av N.ent.c.val.length az.c.cv, .slice az.c.Ao N.ent.c.old.length az.c.co] rfl rfl 29 #[.int .i64 0, .int .i64 0, .int .i64 0, .int .i64 0, .int .i64 0, .int .i64 0, .bool false, .int .i64 0, .int .i64 0, .int .i64 0, .int .i64 0, .slice none 0 0, .int .i64 0, .int .i64 0, .slice none 0 0, .slice none 0 0, .int .i64 0, .int .i64 0, .int .i64 0, .int .i64 0, .int .i64 0, .slice none 0 0, .slice none 0 0, .slice none 0 0] Z9.out (by kernel_rfl) rfl (by kernel_rfl) ?_)
            | fail)
          have b6 : Below w5.heap.size w5 ((w5.alloc (.cells #[.int .i64 0, .int .i64 0, .int .i64 0, .int .i64 0, .int .i64 0, .int .i64 0, .bool false, .int .i64 0, .int .i64 0, .int .i64 0, .int .i64 0, .slice none 0 0, .int .i64 0, .int .i64 0, .slice none 0 0, .slice none 0 0, .int .i64 0, .int .i64 0, .int .i64 0, .int .i64 0, .int .i64 0, .slice none 0 0, .slice none 0 0, .slice none 0 0] 29)).setRow w5.heap.size #[.int .i64 N.kind, .int .i64 N.frm, .int .i64 N.dst, .int .i64 N.view, .int .i64 N.inst, .int .i64 N.len, .bool N.has, .int .i64 N.mem, .int .i64 N.src, .int .i64 N.pos, .int .i64 N.tot, .slice az.Ad N.data.length az.cd, .int .i64 N.hop, .int .i64 N.seq, .slice az.Ah N.hav.length az.ch, .slice az.An N.nee.length az.cn, .int .i64 N.idx, .int .i64 N.ent.s, .int .i64 N.ent.q, .int .i64 N.ent.c.kind, .int .i64 N.ent.c.who, .slice az.c.Ak N.ent.c.key.length az.c.ck, .slice az.c.Av N.ent.c.val.length az.c.cv, .slice az.c.Ao N.ent.c.old.length az.c.co]) := below_setRow ((Below.refl _ _).alloc (Nat.le_refl _) _) (Nat.le_refl _) _
          have k6 := Z9.out.row #[.int .i64 N.kind, .int .i64 N.frm, .int .i64 N.dst, .int .i64 N.view, .int .i64 N.inst, .int .i64 N.len, .bool N.has, .int .i64 N.mem, .int .i64 N.src, .int .i64 N.pos, .int .i64 N.tot, .slice az.Ad N.data.length az.cd, .int .i64 N.hop, .int .i64 N.seq, .slice az.Ah N.hav.length az.ch, .slice az.An N.nee.length az.cn, .int .i64 N.idx, .int .i64 N.ent.s, .int .i64 N.ent.q, .int .i64 N.ent.c.kind, .int .i64 N.ent.c.who, .slice az.c.Ak N.ent.c.key.length az.c.ck, .slice az.c.Av N.ent.c.val.length az.c.cv, .slice az.c.Ao N.ent.c.old.length az.c.co]
          obtain ⟨gy, hgy⟩ : ∃ gy, w5.heap.size = gy := ⟨_, rfl⟩
          generalize (w5.alloc (.cells #[.int .i64 0, .int .i64 0, .int .i64 0, .int .i64 0, .int .i64 0, .int .i64 0, .bool false, .int .i64 0, .int .i64 0, .int .i64 0, .int .i64 0, .slice none 0 0, .int .i64 0, .int .i64 0, .slice none 0 0, .slice none 0 0, .int .i64 0, .int .i64 0, .int .i64 0, .int .i64 0, .int .i64 0, .slice none 0 0, .slice none 0 0, .slice none 0 0] 29)).setRow w5.heap.size #[.int .i64 N.kind, .int .i64 N.frm, .int .i64 N.dst, .int .i64 N.view, .int .i64 N.inst, .int .i64 N.len, .bool N.has, .int .i64 N.mem, .int .i64 N.src, .int .i64 N.pos, .int .i64 N.tot, .slice az.Ad N.data.length az.cd, .int .i64 N.hop, .int .i64 N.seq, .slice az.Ah N.hav.length az.ch, .slice az.An N.nee.length az.cn, .int .i64 N.idx, .int .i64 N.ent.s, .int .i64 N.ent.q, .int .i64 N.ent.c.kind, .int .i64 N.ent.c.who, .slice az.c.Ak N.ent.c.key.length az.c.ck, .slice az.c.Av N.ent.c.val.length az.c.cv, .slice az.c.Ao N.ent.c.old.length az.c.co] = w6 at b6 k6 ⊢
          rw [hgy] at k6 ⊢
          have HY := Lib.hid k6
          have hb46 : Below wr.heap.size wr w6 := HB5.out.trans (b6.mono HB5.out.size)
          have HB6 := Lib.hid (HB.out.trans (hb46.mono HB.out.size))
          have HRB := Lib.hid (HO5.out.below' b6)
          have HRL := Lib.hid ((HL.out.below HB6.out).fit)
          have CE : Hid (∀ wx, Below w6.heap.size w6 wx → Calls Try.prog 12 #[.agg #[.int .i64 N.kind, .int .i64 N.frm, .int .i64 N.dst, .int .i64 N.view, .int .i64 N.inst, .int .i64 N.len, .bool N.has, .int .i64 N.mem, .int .i64 N.src, .int .i64 N.pos, .int .i64 N.tot, .slice az.Ad N.data.length az.cd, .int .i64 N.hop, .int .i64 N.seq, .slice az.Ah N.hav.length az.ch, .slice az.An N.nee.length az.cn, .int .i64 N.idx, .int .i64 N.ent.s, .int .i64 N.ent.q, .int .i64 N.ent.c.kind, .int .i64 N.ent.c.who, .slice az.c.Ak N.ent.c.key.length az.c.ck, .slice az.c.Av N.ent.c.val.length az.c.cv, .slice az.c.Ao N.ent.c.old.length az.c.co]] wx (GotIn wx wx l)) := Lib.hid fun wx hb => encode11.is (a := az) (m := N) (Mg.dec_canon HLT.out HDC.out).2.1 (Mg.dec_wide HLT.out HDC.out) (HRB.out.below' hb) (Below.refl _ _)
          clear hgy b6 k6 hb46 HB5 HO5 Z9
          refine region_invG (U0 := fun i => if i = 8 then u8 else undef) (frame16 gy true A l.length cap _ _ _ _ _ _ _ _ _ _ _ _ _ _ _ _ _ _ _ _ _ _ _ _ _ _ _ _ _ _ _ _ _ _ _ _ _ _ _ _ _ _ _ _ _ _ _ _ _ _ _ _ _ _ _ _ _ _ _ _ _ _ _ _ _ _ _ _ _ _ _ _ _ _ _ _ _ _ _ _ _ _ _ _ _ _ _ _ _ _ _ _ _ _ _ _ _ _ _ _ _ _ _ _ _ _ _ _ _ _ _ _ _ _) dst16 deps16S want16S (V9 (kinds16S gy N az A cap l)) (Fr16 gy true A l.length cap) ?hm ?hb ?inj ?dst ?deps ?want ?put ?ev ?fr (V9.ext _) (Below.refl _ _) ?hok ?done
          case hok =>
            refine all_ops (AllFrom.cons ?s0 (AllFrom.cons ?s1 (AllFrom.cons ?s2 (AllFrom.cons ?s3 (AllFrom.cons ?s4 (AllFrom.cons ?s5 (AllFrom.cons ?s6 (AllFrom.cons ?s7 (AllFrom.cons ?s8 (AllFrom.cons ?s9 (AllFrom.cons ?s10 (AllFrom.cons ?s11 (AllFrom.cons ?s12 (AllFrom.cons ?s13 (AllFrom.cons ?s14 (AllFrom.cons ?s15 (AllFrom.cons ?s16 (AllFrom.cons ?s17 (AllFrom.cons ?s18 (AllFrom.cons ?s19 (AllFrom.cons ?s20 (AllFrom.cons ?s21 AllFrom.nil))))))))))))))))))))))
            case s0 =>
              intro a w1 hF hB hdep K hK
              show Oper.wp _ _ a w1 K _
              have f17 : a.tmps[17]?.getD undef = .bool true := ev_tmp3 hF.2.1
              go_simp
              exact hK.out _ _ (Ext.refl _) hB rfl
            case s1 =>
              intro a w1 hF hB hdep K hK
              show Oper.wp _ _ a w1 K _
              have e0 : a.tmps[118]?.getD undef = .bool true := ev_tmp3 (show a.eval (.tmp 118) = .bool true from hdep 0 (by decide))
              go_simp
              exact hK.out _ _ (Ext.refl _) hB rfl
            case s2 =>
              intro a w1 hF hB hdep K hK
              show Oper.wp _ _ a w1 K _
              have e1 : a.tmps[119]?.getD undef = .bool false := ev_tmp3 (show a.eval (.tmp 119) = .bool false from hdep 1 (by decide))
              go_simp
              exact hK.out _ _ (Ext.refl _) hB rfl
            case s3 =>
              intro a w1 hF hB hdep K hK
              show K (a.put _ undef) w1
              exact hK.out _ _ (Ext.refl _) hB rfl
            case s4 =>
              intro a w1 hF hB hdep K hK
              show K (a.put _ undef) w1
              exact hK.out _ _ (Ext.refl _) hB rfl
            case s5 =>
              intro a w1 hF hB hdep K hK
              show K (a.put _ undef) w1
              exact hK.out _ _ (Ext.refl _) hB rfl
            case s6 =>
              intro a w1 hF hB hdep K hK
              show Oper.wp _ _ a w1 K _
              have e2 : a.tmps[120]?.getD undef = .bool false := ev_tmp3 (show a.eval (.tmp 120) = .bool false from hdep 2 (by decide))
              go_simp
              exact hK.out _ _ (Ext.refl _) hB rfl
            case s7 =>
              intro a w1 hF hB hdep K hK
              show Oper.wp _ _ a w1 K _
              have e6 : a.tmps[124]?.getD undef = .bool false := ev_tmp3 (show a.eval (.tmp 124) = .bool false from hdep 6 (by decide))
              go_simp
              exact hK.out _ _ (Ext.refl _) hB rfl
            case s8 =>
              intro a w1 hF hB hdep K hK
              show Oper.wp _ _ a w1 K _
              have f17 : a.tmps[17]?.getD undef = .bool true := ev_tmp3 hF.2.1
              go_simp
              exact hK.out _ _ (Ext.refl _) hB rfl
            case s9 =>
              intro a w1 hF hB hdep K hK
              show Oper.wp _ _ a w1 K _
              have e8 : a.tmps[126]?.getD undef = .bool true := ev_tmp3 (show a.eval (.tmp 126) = .bool true from hdep 8 (by decide))
              go_simp
              exact hK.out _ _ (Ext.refl _) hB rfl
            case s10 =>
              intro a w1 hF hB hdep K hK
              show Oper.wp _ _ a w1 K _
              refine wp_load_row 29 (.tmp 16) rfl gy hF.1 29 #[.int .i64 N.kind, .int .i64 N.frm, .int .i64 N.dst, .int .i64 N.view, .int .i64 N.inst, .int .i64 N.len, .bool N.has, .int .i64 N.mem, .int .i64 N.src, .int .i64 N.pos, .int .i64 N.tot, .slice az.Ad N.data.length az.cd, .int .i64 N.hop, .int .i64 N.seq, .slice az.Ah N.hav.length az.ch, .slice az.An N.nee.length az.cn, .int .i64 N.idx, .int .i64 N.ent.s, .int .i64 N.ent.q, .int .i64 N.ent.c.kind, .int .i64 N.ent.c.who, .slice az.c.Ak N.ent.c.key.length az.c.ck, .slice az.c.Av N.ent.c.val.length az.c.cv, .slice az.c.Ao N.ent.c.old.length az.c.co] (0, 0) _ (HY.out.below hB) rfl rfl rfl ?_
              exact hK.out _ _ (Ext.refl _) hB rfl
            case s11 =>
              intro a w1 hF hB hdep K hK
              show Oper.wp _ _ a w1 K _
              have e10 : a.tmps[128]?.getD undef = .agg #[.int .i64 N.kind, .int .i64 N.frm, .int .i64 N.dst, .int .i64 N.view, .int .i64 N.inst, .int .i64 N.len, .bool N.has, .int .i64 N.mem, .int .i64 N.src, .int .i64 N.pos, .int .i64 N.tot, .slice az.Ad N.data.length az.cd, .int .i64 N.hop, .int .i64 N.seq, .slice az.Ah N.hav.length az.ch, .slice az.An N.nee.length az.cn, .int .i64 N.idx, .int .i64 N.ent.s, .int .i64 N.ent.q, .int .i64 N.ent.c.kind, .int .i64 N.ent.c.who, .slice az.c.Ak N.ent.c.key.length az.c.ck, .slice az.c.Av N.ent.c.val.length az.c.cv, .slice az.c.Ao N.ent.c.old.length az.c.co] := ev_tmp3 (show a.eval (.tmp 128) = .agg #[.int .i64 N.kind, .int .i64 N.frm, .int .i64 N.dst, .int .i64 N.view, .int .i64 N.inst, .int .i64 N.len, .bool N.has, .int .i64 N.mem, .int .i64 N.src, .int .i64 N.pos, .int .i64 N.tot, .slice az.Ad N.data.length az.cd, .int .i64 N.hop, .int .i64 N.seq, .slice az.Ah N.hav.length az.ch, .slice az.An N.nee.length az.cn, .int .i64 N.idx, .int .i64 N.ent.s, .int .i64 N.ent.q, .int .i64 N.ent.c.kind, .int .i64 N.ent.c.who, .slice az.c.Ak N.ent.c.key.length az.c.ck, .slice az.c.Av N.ent.c.val.length az.c.cv, .slice az.c.Ao N.ent.c.old.length az.c.co] from hdep 10 (by decide))
              go_simp
              go_at_call 12
              refine (CE.out _ hB).mono ?_
              rintro e w2 ⟨A9, c9, rfl, ho, hB9, hb⟩
              go_simp
              exact hK.out _ _ (Ext.of_below hb) (hB.trans (hb.mono hB.size)) ⟨A9, c9, rfl, Rd.own_ ho⟩
            case s12 =>
              intro a w1 hF hB hdep K hK
              show Oper.wp _ _ a w1 K _
              obtain ⟨A9, c9, e32, hr⟩ : ∃ A9 c9, a.eval (.tmp 129) = .slice A9 l.length c9 ∧ Rd w1 w1.heap.size A9 l.length (bv l) := hdep 11 (by decide)
              have e32 : a.tmps[129]?.getD undef = .slice A9 l.length c9 := ev_tmp3 e32
              have q := str_of (c := c9) hr
              go_simp
              exact hK.out _ _ (Ext.refl _) hB rfl
            case s13 =>
              intro a w1 hF hB hdep K hK
              show Oper.wp _ _ a w1 K _
              have f3 : a.tmps[3]?.getD undef = .slice A l.length cap := ev_tmp3 hF.2.2
              go_simp
              exact hK.out _ _ (Ext.refl _) hB rfl
            case s14 =>
              intro a w1 hF hB hdep K hK
              show Oper.wp _ _ a w1 K _
              have e13 : a.tmps[131]?.getD undef = .slice A l.length cap := ev_tmp3 (show a.eval (.tmp 131) = .slice A l.length cap from hdep 13 (by decide))
              have q := str_of (c := cap) (HRL.out.below hB)
              go_simp
              exact hK.out _ _ (Ext.refl _) hB rfl
            case s15 =>
              intro a w1 hF hB hdep K hK
              show Oper.wp _ _ a w1 K _
              have e12 : a.tmps[130]?.getD undef = .string (strB l) := ev_tmp3 (show a.eval (.tmp 130) = .string (strB l) from hdep 12 (by decide))
              have e14 : a.tmps[132]?.getD undef = .string (strB l) := ev_tmp3 (show a.eval (.tmp 132) = .string (strB l) from hdep 14 (by decide))
              go_simp
              exact hK.out _ _ (Ext.refl _) hB rfl
            case s16 =>
              intro a w1 hF hB hdep K hK
              show Oper.wp _ _ a w1 K _
              have e9 : a.tmps[127]?.getD undef = .bool true := ev_tmp3 (show a.eval (.tmp 127) = .bool true from hdep 9 (by decide))
              have e15 : a.tmps[133]?.getD undef = .bool true := ev_tmp3 (show a.eval (.tmp 133) = .bool true from hdep 15 (by decide))
              go_simp
              exact hK.out _ _ (Ext.refl _) hB rfl
            case s17 =>
              intro a w1 hF hB hdep K hK
              show Oper.wp _ _ a w1 K _
              have e7 : a.tmps[125]?.getD undef = .bool false := ev_tmp3 (show a.eval (.tmp 125) = .bool false from hdep 7 (by decide))
              have e16 : a.tmps[134]?.getD undef = .bool true := ev_tmp3 (show a.eval (.tmp 134) = .bool true from hdep 16 (by decide))
              go_simp
              exact hK.out _ _ (Ext.refl _) hB rfl
            case s18 =>
              intro a w1 hF hB hdep K hK
              show Oper.wp _ _ a w1 K _
              have e17 : a.tmps[135]?.getD undef = .bool true := ev_tmp3 (show a.eval (.tmp 135) = .bool true from hdep 17 (by decide))
              go_simp
              exact hK.out _ _ (Ext.refl _) hB rfl
            case s19 =>
              intro a w1 hF hB hdep K hK
              show Oper.wp _ _ a w1 K _
              go_simp
              go_at_call 9
              refine (AW.out _).mono ?_
              rintro e w2 ⟨rfl, hb⟩
              go_simp
              exact hK.out _ _ (Ext.of_below hb) (hB.trans (hb.mono hB.size)) rfl
            case s20 =>
              intro a w1 hF hB hdep K hK
              show Oper.wp _ _ a w1 K _
              have e18 : a.tmps[136]?.getD undef = .bool true := ev_tmp3 (show a.eval (.tmp 136) = .bool true from hdep 18 (by decide))
              have e19 : a.tmps[137]?.getD undef = .bool true := ev_tmp3 (show a.eval (.tmp 137) = .bool true from hdep 19 (by decide))
              go_simp
              exact hK.out _ _ (Ext.refl _) hB rfl
            case s21 =>
              intro a w1 hF hB hdep K hK
              show Oper.wp _ _ a w1 K _
              have e20 : a.tmps[138]?.getD undef = .bool true := ev_tmp3 (show a.eval (.tmp 138) = .bool true from hdep 20 (by decide))
              go_simp
              exact hK.out _ _ (Ext.refl _) hB rfl
          case hm => kernel_rfl
          case hb => kernel_rfl
          case inj =>
            intro i j hi hj h
            have h1 : ((List.range 22).all fun i => (List.range 22).all fun j => !(dst16 i == dst16 j) || (i == j)) = true := by kernel_rfl
            have h2 := List.all_eq_true.1 (List.all_eq_true.1 h1 i (List.mem_range.2 hi)) j (List.mem_range.2 hj)
            simpa [h] using h2
          case dst => exact all_ops (AllFrom.cons rfl (AllFrom.cons rfl (AllFrom.cons rfl (AllFrom.cons rfl (AllFrom.cons rfl (AllFrom.cons rfl (AllFrom.cons rfl (AllFrom.cons rfl (AllFrom.cons rfl (AllFrom.cons rfl (AllFrom.cons rfl (AllFrom.cons rfl (AllFrom.cons rfl (AllFrom.cons rfl (AllFrom.cons rfl (AllFrom.cons rfl (AllFrom.cons rfl (AllFrom.cons rfl (AllFrom.cons rfl (AllFrom.cons rfl (AllFrom.cons rfl (AllFrom.cons rfl AllFrom.nil))))))))))))))))))))))
          case deps =>
            intro i hi j hj
            refine deps_of3 (deps := deps16S) ?_ i hi j hj
            kernel_rfl
          case want => exact all_ops (AllFrom.cons (fun U w hd => rfl) (AllFrom.cons (fun U w hd => rfl) (AllFrom.cons (fun U w hd => rfl) (AllFrom.cons (fun U w hd => wanted_of rfl (yielded_of (s := 120) (b := false) rfl ((show _ = some (U 120) from by kernel_rfl).trans (congrArg some (show U 120 = .bool false from hd 2 (by decide))))) rfl) (AllFrom.cons (fun U w hd => wanted_of rfl (yielded_of (s := 120) (b := false) rfl ((show _ = some (U 120) from by kernel_rfl).trans (congrArg some (show U 120 = .bool false from hd 2 (by decide))))) rfl) (AllFrom.cons (fun U w hd => wanted_of rfl (yielded_of (s := 120) (b := false) rfl ((show _ = some (U 120) from by kernel_rfl).trans (congrArg some (show U 120 = .bool false from hd 2 (by decide))))) rfl) (AllFrom.cons (fun U w hd => rfl) (AllFrom.cons (fun U w hd => rfl) (AllFrom.cons (fun U w hd => wanted_of rfl (yielded_of (s := 125) (b := false) rfl ((show _ = some (U 125) from by kernel_rfl).trans (congrArg some (show U 125 = .bool false from hd 7 (by decide))))) rfl) (AllFrom.cons (fun U w hd => wanted_of rfl (yielded_of (s := 125) (b := false) rfl ((show _ = some (U 125) from by kernel_rfl).trans (congrArg some (show U 125 = .bool false from hd 7 (by decide))))) rfl) (AllFrom.cons (fun U w hd => wanted_of rfl (yielded_of (s := 127) (b := true) rfl ((show _ = some (U 127) from by kernel_rfl).trans (congrArg some (show U 127 = .bool true from hd 9 (by decide))))) rfl) (AllFrom.cons (fun U w hd => wanted_of rfl (yielded_of (s := 127) (b := true) rfl ((show _ = some (U 127) from by kernel_rfl).trans (congrArg some (show U 127 = .bool true from hd 9 (by decide))))) rfl) (AllFrom.cons (fun U w hd => wanted_of rfl (yielded_of (s := 127) (b := true) rfl ((show _ = some (U 127) from by kernel_rfl).trans (congrArg some (show U 127 = .bool true from hd 9 (by decide))))) rfl) (AllFrom.cons (fun U w hd => wanted_of rfl (yielded_of (s := 127) (b := true) rfl ((show _ = some (U 127) from by kernel_rfl).trans (congrArg some (show U 127 = .bool true from hd 9 (by decide))))) rfl) (AllFrom.cons (fun U w hd => wanted_of rfl (yielded_of (s := 127) (b := true) rfl ((show _ = some (U 127) from by kernel_rfl).trans (congrArg some (show U 127 = .bool true from hd 9 (by decide))))) rfl) (AllFrom.cons (fun U w hd => wanted_of rfl (yielded_of (s := 127) (b := true) rfl ((show _ = some (U 127) from by kernel_rfl).trans (congrArg some (show U 127 = .bool true from hd 9 (by decide))))) rfl) (AllFrom.cons (fun U w hd => wanted_of rfl (yielded_of (s := 125) (b := false) rfl ((show _ = some (U 125) from by kernel_rfl).trans (congrArg some (show U 125 = .bool false from hd 7 (by decide))))) rfl) (AllFrom.cons (fun U w hd => rfl) (AllFrom.cons (fun U w hd => rfl) (AllFrom.cons (fun U w hd => wanted_of rfl (yielded_of (s := 136) (b := true) rfl ((show _ = some (U 136) from by kernel_rfl).trans (congrArg some (show U 136 = .bool true from hd 18 (by decide))))) rfl) (AllFrom.cons (fun U w hd => rfl) (AllFrom.cons (fun U w hd => rfl) AllFrom.nil))))))))))))))))))))))
          case put => exact all_ops (AllFrom.cons (fun _ _ => by kernel_rfl) (AllFrom.cons (fun _ _ => by kernel_rfl) (AllFrom.cons (fun _ _ => by kernel_rfl) (AllFrom.cons (fun _ _ => by kernel_rfl) (AllFrom.cons (fun _ _ => by kernel_rfl) (AllFrom.cons (fun _ _ => by kernel_rfl) (AllFrom.cons (fun _ _ => by kernel_rfl) (AllFrom.cons (fun _ _ => by kernel_rfl) (AllFrom.cons (fun _ _ => by kernel_rfl) (AllFrom.cons (fun _ _ => by kernel_rfl) (AllFrom.cons (fun _ _ => by kernel_rfl) (AllFrom.cons (fun _ _ => by kernel_rfl) (AllFrom.cons (fun _ _ => by kernel_rfl) (AllFrom.cons (fun _ _ => by kernel_rfl) (AllFrom.cons (fun _ _ => by kernel_rfl) (AllFrom.cons (fun _ _ => by kernel_rfl) (AllFrom.cons (fun _ _ => by kernel_rfl) (AllFrom.cons (fun _ _ => by kernel_rfl) (AllFrom.cons (fun _ _ => by kernel_rfl) (AllFrom.cons (fun _ _ => by kernel_rfl) (AllFrom.cons (fun _ _ => by kernel_rfl) (AllFrom.cons (fun _ _ => by kernel_rfl) AllFrom.nil))))))))))))))))))))))
          case ev => exact all_ops (AllFrom.cons (fun _ => by kernel_rfl) (AllFrom.cons (fun _ => by kernel_rfl) (AllFrom.cons (fun _ => by kernel_rfl) (AllFrom.cons (fun _ => by kernel_rfl) (AllFrom.cons (fun _ => by kernel_rfl) (AllFrom.cons (fun _ => by kernel_rfl) (AllFrom.cons (fun _ => by kernel_rfl) (AllFrom.cons (fun _ => by kernel_rfl) (AllFrom.cons (fun _ => by kernel_rfl) (AllFrom.cons (fun _ => by kernel_rfl) (AllFrom.cons (fun _ => by kernel_rfl) (AllFrom.cons (fun _ => by kernel_rfl) (AllFrom.cons (fun _ => by kernel_rfl) (AllFrom.cons (fun _ => by kernel_rfl) (AllFrom.cons (fun _ => by kernel_rfl) (AllFrom.cons (fun _ => by kernel_rfl) (AllFrom.cons (fun _ => by kernel_rfl) (AllFrom.cons (fun _ => by kernel_rfl) (AllFrom.cons (fun _ => by kernel_rfl) (AllFrom.cons (fun _ => by kernel_rfl) (AllFrom.cons (fun _ => by kernel_rfl) (AllFrom.cons (fun _ => by kernel_rfl) AllFrom.nil))))))))))))))))))))))
          case fr => exact fun U => ⟨by kernel_rfl, by kernel_rfl, by kernel_rfl⟩
          case done =>
            intro U w' hB hV
            have e1 : U 8 = .bool true := hV 21 (by decide)
            unfold frame16
            rw [e1]
            have HB9 := Lib.hid (HB6.out.trans (hB.mono HB6.out.size))
            clear hV e1 hB
            go_wp2_with fail
            go_ret
            exact ⟨rfl, HB9.out⟩
        | none =>
          have HDC := Lib.hid hdc
          clear hdc
          obtain ⟨N, hN⟩ : ∃ N, Mg.zero = N := ⟨_, rfl⟩
          have HN := Lib.hid hN
          clear hN
          have C8 : Hid (Calls Try.prog 15 #[.slice A l.length cap] wr (GotG wr wr none)) := Lib.hid (decode11.is HDC.out (by have := HL200.out; omega) HLT.out (HL.out.below HB.out) (Below.refl _ _))
          go_upto_region 16 with (first
            | (go_at_call 15; refine C8.out.mono ?_; rintro e w5 ⟨az, he, ho5, hB5, hb5⟩
               have he2 : e = .returned (.tuple #[.agg #[.int .i64 N.kind, .int .i64 N.frm, .int .i64 N.dst, .int .i64 N.view, .int .i64 N.inst, .int .i64 N.len, .bool N.has, .int .i64 N.mem, .int .i64 N.src, .int .i64 N.pos, .int .i64 N.tot, .slice az.Ad N.data.length az.cd, .int .i64 N.hop, .int .i64 N.seq, .slice az.Ah N.hav.length az.ch, .slice az.An N.nee.length az.cn, .int .i64 N.idx, .int .i64 N.ent.s, .int .i64 N.ent.q, .int .i64 N.ent.c.kind, .int .i64 N.ent.c.who, .slice az.c.Ak N.ent.c.key.length az.c.ck, .slice az.c.Av N.ent.c.val.length az.c.cv, .slice az.c.Ao N.ent.c.old.length az.c.co], .bool false]) := by rw [he, ← HN.out]; rfl
               clear he
               subst he2
               have HB5 := Lib.hid hb5
               have HO5 := Lib.hid ho5.rd
               have Z9 := Lib.hid (Blk.new w5 29 #[.int .i64 0, .int .i64 0, .int .i64 0, .int .i64 0, .int .i64 0, .int .i64 0, .bool false, .int .i64 0, .int .i64 0, .int .i64 0, .int .i64 0, .slice none 0 0, .int .i64 0, .int .i64 0, .slice none 0 0, .slice none 0 0, .int .i64 0, .int .i64 0, .int .i64 0, .int .i64 0, .int .i64 0, .slice none 0 0, .slice none 0 0, .slice none 0 0])
               clear ho5 hB5 hb5 C8)
            | (refine wpList_store_row rfl 29 (.tmp 16) (.tmp 116) rfl w5.heap.size #[.int .i64 N.kind, .int .i64 N.frm, .int .i64 N.dst, .int .i64 N.view, .int .i64 N.inst, .int .i64 N.len, .bool N.has, .int .i64 N.mem, .int .i64 N.src, .int .i64 N.pos, .int .i64 N.tot, .slice az.Ad N.data.length az.cd, .int .i64 N.hop, .int .i64 N.seq, .slice az.Ah N.hav.length az.ch, .slice az.An N.nee.length az.cn, .int .i64 N.idx, .int .i64 N.ent.s, .int .i64 N.ent.q, .int .i64 N.ent.c.kind, .int .i64 N.ent.c.who, .slice az.c.Ak N.ent.c.key.length az.c.ck, .slice az.c.Av N.ent.c.val.length az.c.cv, .slice az.c.Ao N.ent.c.old.length az.c.co] rfl rfl 29 #[.int .i64 0, .int .i64 0, .int .i64 0, .int .i64 0, .int .i64 0, .int .i64 0, .bool false, .int .i64 0, .int .i64 0, .int .i64 0, .int .i64 0, .slice none 0 0, .int .i64 0, .int .i64 0, .slice none 0 0, .slice none 0 0, .int .i64 0, .int .i64 0, .int .i64 0, .int .i64 0, .int .i64 0, .slice none 0 0, .slice none 0 0, .slice none 0 0] Z9.out (by kernel_rfl) rfl (by kernel_rfl) ?_)
            | fail)
          have b6 : Below w5.heap.size w5 ((w5.alloc (.cells #[.int .i64 0, .int .i64 0, .int .i64 0, .int .i64 0, .int .i64 0, .int .i64 0, .bool false, .int .i64 0, .int .i64 0, .int .i64 0, .int .i64 0, .slice none 0 0, .int .i64 0, .int .i64 0, .slice none 0 0, .slice none 0 0, .int .i64 0, .int .i64 0, .int .i64 0, .int .i64 0, .int .i64 0, .slice none 0 0, .slice none 0 0, .slice none 0 0] 29)).setRow w5.heap.size #[.int .i64 N.kind, .int .i64 N.frm, .int .i64 N.dst, .int .i64 N.view, .int .i64 N.inst, .int .i64 N.len, .bool N.has, .int .i64 N.mem, .int .i64 N.src, .int .i64 N.pos, .int .i64 N.tot, .slice az.Ad N.data.length az.cd, .int .i64 N.hop, .int .i64 N.seq, .slice az.Ah N.hav.length az.ch, .slice az.An N.nee.length az.cn, .int .i64 N.idx, .int .i64 N.ent.s, .int .i64 N.ent.q, .int .i64 N.ent.c.kind, .int .i64 N.ent.c.who, .slice az.c.Ak N.ent.c.key.length az.c.ck, .slice az.c.Av N.ent.c.val.length az.c.cv, .slice az.c.Ao N.ent.c.old.length az.c.co]) := below_setRow ((Below.refl _ _).alloc (Nat.le_refl _) _) (Nat.le_refl _) _
          have k6 := Z9.out.row #[.int .i64 N.kind, .int .i64 N.frm, .int .i64 N.dst, .int .i64 N.view, .int .i64 N.inst, .int .i64 N.len, .bool N.has, .int .i64 N.mem, .int .i64 N.src, .int .i64 N.pos, .int .i64 N.tot, .slice az.Ad N.data.length az.cd, .int .i64 N.hop, .int .i64 N.seq, .slice az.Ah N.hav.length az.ch, .slice az.An N.nee.length az.cn, .int .i64 N.idx, .int .i64 N.ent.s, .int .i64 N.ent.q, .int .i64 N.ent.c.kind, .int .i64 N.ent.c.who, .slice az.c.Ak N.ent.c.key.length az.c.ck, .slice az.c.Av N.ent.c.val.length az.c.cv, .slice az.c.Ao N.ent.c.old.length az.c.co]
          obtain ⟨gy, hgy⟩ : ∃ gy, w5.heap.size = gy := ⟨_, rfl⟩
          generalize (w5.alloc (.cells #[.int .i64 0, .int .i64 0, .int .i64 0, .int .i64 0, .int .i64 0, .int .i64 0, .bool false, .int .i64 0, .int .i64 0, .int .i64 0, .int .i64 0, .slice none 0 0, .int .i64 0, .int .i64 0, .slice none 0 0, .slice none 0 0, .int .i64 0, .int .i64 0, .int .i64 0, .int .i64 0, .int .i64 0, .slice none 0 0, .slice none 0 0, .slice none 0 0] 29)).setRow w5.heap.size #[.int .i64 N.kind, .int .i64 N.frm, .int .i64 N.dst, .int .i64 N.view, .int .i64 N.inst, .int .i64 N.len, .bool N.has, .int .i64 N.mem, .int .i64 N.src, .int .i64 N.pos, .int .i64 N.tot, .slice az.Ad N.data.length az.cd, .int .i64 N.hop, .int .i64 N.seq, .slice az.Ah N.hav.length az.ch, .slice az.An N.nee.length az.cn, .int .i64 N.idx, .int .i64 N.ent.s, .int .i64 N.ent.q, .int .i64 N.ent.c.kind, .int .i64 N.ent.c.who, .slice az.c.Ak N.ent.c.key.length az.c.ck, .slice az.c.Av N.ent.c.val.length az.c.cv, .slice az.c.Ao N.ent.c.old.length az.c.co] = w6 at b6 k6 ⊢
          rw [hgy] at k6 ⊢
          have HY := Lib.hid k6
          have hb46 : Below wr.heap.size wr w6 := HB5.out.trans (b6.mono HB5.out.size)
          have HB6 := Lib.hid (HB.out.trans (hb46.mono HB.out.size))
          have HRB := Lib.hid ((show RdG w5 w5.heap.size az N by rw [← HN.out]; exact HO5.out).below' b6)
          have HRL := Lib.hid ((HL.out.below HB6.out).fit)
          have CS : Hid (∀ wx, Below w6.heap.size w6 wx → Calls Try.prog 13 #[.agg #[.int .i64 N.kind, .int .i64 N.frm, .int .i64 N.dst, .int .i64 N.view, .int .i64 N.inst, .int .i64 N.len, .bool N.has, .int .i64 N.mem, .int .i64 N.src, .int .i64 N.pos, .int .i64 N.tot, .slice az.Ad N.data.length az.cd, .int .i64 N.hop, .int .i64 N.seq, .slice az.Ah N.hav.length az.ch, .slice az.An N.nee.length az.cn, .int .i64 N.idx, .int .i64 N.ent.s, .int .i64 N.ent.q, .int .i64 N.ent.c.kind, .int .i64 N.ent.c.who, .slice az.c.Ak N.ent.c.key.length az.c.ck, .slice az.c.Av N.ent.c.val.length az.c.cv, .slice az.c.Ao N.ent.c.old.length az.c.co], .agg #[.int .i64 0, .int .i64 0, .int .i64 0, .int .i64 0, .int .i64 0, .int .i64 0, .bool false, .int .i64 0, .int .i64 0, .int .i64 0, .int .i64 0, .slice none 0 0, .int .i64 0, .int .i64 0, .slice none 0 0, .slice none 0 0, .int .i64 0, .int .i64 0, .int .i64 0, .int .i64 0, .int .i64 0, .slice none 0 0, .slice none 0 0, .slice none 0 0]] wx fun e w' => e = .returned (.bool true) ∧ Below wx.heap.size wx w') := Lib.hid fun wx hb => SameC11.is (fun w _ _ _ _ _ _ h1 h2 h3 h4 => same11 w h1 h2 h3 h4) wx (a := az) (a' := GA.zero) (m := N) (m' := Mg.zero) (b := true) (by rw [← HN.out]; simp) (by rw [← HN.out]; exact Mg.Wide.zero) Mg.Wide.zero (HRB.out.below' hb) (RdG.zero wx wx.heap.size)
          clear hgy b6 k6 hb46 HB5 HO5 Z9
          refine region_invG (U0 := fun i => if i = 8 then u8 else undef) (frame16 gy false A l.length cap _ _ _ _ _ _ _ _ _ _ _ _ _ _ _ _ _ _ _ _ _ _ _ _ _ _ _ _ _ _ _ _ _ _ _ _ _ _ _ _ _ _ _ _ _ _ _ _ _ _ _ _ _ _ _ _ _ _ _ _ _ _ _ _ _ _ _ _ _ _ _ _ _ _ _ _ _ _ _ _ _ _ _ _ _ _ _ _ _ _ _ _ _ _ _ _ _ _ _ _ _ _ _ _ _ _ _ _ _ _ _ _ _ _) dst16 deps16N want16N (V9 (kinds16N gy N az A cap l)) (Fr16 gy false A l.length cap) ?hm ?hb ?inj ?dst ?deps ?want ?put ?ev ?fr (V9.ext _) (Below.refl _ _) ?hok ?done
          case hok =>
            refine all_ops (AllFrom.cons ?s0 (AllFrom.cons ?s1 (AllFrom.cons ?s2 (AllFrom.cons ?s3 (AllFrom.cons ?s4 (AllFrom.cons ?s5 (AllFrom.cons ?s6 (AllFrom.cons ?s7 (AllFrom.cons ?s8 (AllFrom.cons ?s9 (AllFrom.cons ?s10 (AllFrom.cons ?s11 (AllFrom.cons ?s12 (AllFrom.cons ?s13 (AllFrom.cons ?s14 (AllFrom.cons ?s15 (AllFrom.cons ?s16 (AllFrom.cons ?s17 (AllFrom.cons ?s18 (AllFrom.cons ?s19 (AllFrom.cons ?s20 (AllFrom.cons ?s21 AllFrom.nil))))))))))))))))))))))
            case s0 =>
              intro a w1 hF hB hdep K hK
              show Oper.wp _ _ a w1 K _
              have f17 : a.tmps[17]?.getD undef = .bool false := ev_tmp3 hF.2.1
              go_simp
              exact hK.out _ _ (Ext.refl _) hB rfl
            case s1 =>
              intro a w1 hF hB hdep K hK
              show Oper.wp _ _ a w1 K _
              have e0 : a.tmps[118]?.getD undef = .bool false := ev_tmp3 (show a.eval (.tmp 118) = .bool false from hdep 0 (by decide))
              go_simp
              exact hK.out _ _ (Ext.refl _) hB rfl
            case s2 =>
              intro a w1 hF hB hdep K hK
              show Oper.wp _ _ a w1 K _
              have e1 : a.tmps[119]?.getD undef = .bool true := ev_tmp3 (show a.eval (.tmp 119) = .bool true from hdep 1 (by decide))
              go_simp
              exact hK.out _ _ (Ext.refl _) hB rfl
            case s3 =>
              intro a w1 hF hB hdep K hK
              show Oper.wp _ _ a w1 K _
              refine wp_load_row 29 (.tmp 16) rfl gy hF.1 29 #[.int .i64 N.kind, .int .i64 N.frm, .int .i64 N.dst, .int .i64 N.view, .int .i64 N.inst, .int .i64 N.len, .bool N.has, .int .i64 N.mem, .int .i64 N.src, .int .i64 N.pos, .int .i64 N.tot, .slice az.Ad N.data.length az.cd, .int .i64 N.hop, .int .i64 N.seq, .slice az.Ah N.hav.length az.ch, .slice az.An N.nee.length az.cn, .int .i64 N.idx, .int .i64 N.ent.s, .int .i64 N.ent.q, .int .i64 N.ent.c.kind, .int .i64 N.ent.c.who, .slice az.c.Ak N.ent.c.key.length az.c.ck, .slice az.c.Av N.ent.c.val.length az.c.cv, .slice az.c.Ao N.ent.c.old.length az.c.co] (0, 0) _ (HY.out.below hB) rfl rfl rfl ?_
              exact hK.out _ _ (Ext.refl _) hB rfl
            case s4 =>
              intro a w1 hF hB hdep K hK
              show Oper.wp _ _ a w1 K _
              go_simp
              exact hK.out _ _ (Ext.refl _) hB rfl
            case s5 =>
              intro a w1 hF hB hdep K hK
              show Oper.wp _ _ a w1 K _
              have e3 : a.tmps[121]?.getD undef = .agg #[.int .i64 N.kind, .int .i64 N.frm, .int .i64 N.dst, .int .i64 N.view, .int .i64 N.inst, .int .i64 N.len, .bool N.has, .int .i64 N.mem, .int .i64 N.src, .int .i64 N.pos, .int .i64 N.tot, .slice az.Ad N.data.length az.cd, .int .i64 N.hop, .int .i64 N.seq, .slice az.Ah N.hav.length az.ch, .slice az.An N.nee.length az.cn, .int .i64 N.idx, .int .i64 N.ent.s, .int .i64 N.ent.q, .int .i64 N.ent.c.kind, .int .i64 N.ent.c.who, .slice az.c.Ak N.ent.c.key.length az.c.ck, .slice az.c.Av N.ent.c.val.length az.c.cv, .slice az.c.Ao N.ent.c.old.length az.c.co] := ev_tmp3 (show a.eval (.tmp 121) = .agg #[.int .i64 N.kind, .int .i64 N.frm, .int .i64 N.dst, .int .i64 N.view, .int .i64 N.inst, .int .i64 N.len, .bool N.has, .int .i64 N.mem, .int .i64 N.src, .int .i64 N.pos, .int .i64 N.tot, .slice az.Ad N.data.length az.cd, .int .i64 N.hop, .int .i64 N.seq, .slice az.Ah N.hav.length az.ch, .slice az.An N.nee.length az.cn, .int .i64 N.idx, .int .i64 N.ent.s, .int .i64 N.ent.q, .int .i64 N.ent.c.kind, .int .i64 N.ent.c.who, .slice az.c.Ak N.ent.c.key.length az.c.ck, .slice az.c.Av N.ent.c.val.length az.c.cv, .slice az.c.Ao N.ent.c.old.length az.c.co] from hdep 3 (by decide))
              have e4 : a.tmps[122]?.getD undef = .agg #[.int .i64 0, .int .i64 0, .int .i64 0, .int .i64 0, .int .i64 0, .int .i64 0, .bool false, .int .i64 0, .int .i64 0, .int .i64 0, .int .i64 0, .slice none 0 0, .int .i64 0, .int .i64 0, .slice none 0 0, .slice none 0 0, .int .i64 0, .int .i64 0, .int .i64 0, .int .i64 0, .int .i64 0, .slice none 0 0, .slice none 0 0, .slice none 0 0] := ev_tmp3 (show a.eval (.tmp 122) = .agg #[.int .i64 0, .int .i64 0, .int .i64 0, .int .i64 0, .int .i64 0, .int .i64 0, .bool false, .int .i64 0, .int .i64 0, .int .i64 0, .int .i64 0, .slice none 0 0, .int .i64 0, .int .i64 0, .slice none 0 0, .slice none 0 0, .int .i64 0, .int .i64 0, .int .i64 0, .int .i64 0, .int .i64 0, .slice none 0 0, .slice none 0 0, .slice none 0 0] from hdep 4 (by decide))
              go_simp
              go_at_call 13
              refine (CS.out _ hB).mono ?_
              rintro e w2 ⟨rfl, hb⟩
              go_simp
              exact hK.out _ _ (Ext.of_below hb) (hB.trans (hb.mono hB.size)) rfl
            case s6 =>
              intro a w1 hF hB hdep K hK
              show Oper.wp _ _ a w1 K _
              have e2 : a.tmps[120]?.getD undef = .bool true := ev_tmp3 (show a.eval (.tmp 120) = .bool true from hdep 2 (by decide))
              have e5 : a.tmps[123]?.getD undef = .bool true := ev_tmp3 (show a.eval (.tmp 123) = .bool true from hdep 5 (by decide))
              go_simp
              exact hK.out _ _ (Ext.refl _) hB rfl
            case s7 =>
              intro a w1 hF hB hdep K hK
              show Oper.wp _ _ a w1 K _
              have e6 : a.tmps[124]?.getD undef = .bool true := ev_tmp3 (show a.eval (.tmp 124) = .bool true from hdep 6 (by decide))
              go_simp
              exact hK.out _ _ (Ext.refl _) hB rfl
            case s8 =>
              intro a w1 hF hB hdep K hK
              show K (a.put _ undef) w1
              exact hK.out _ _ (Ext.refl _) hB rfl
            case s9 =>
              intro a w1 hF hB hdep K hK
              show K (a.put _ undef) w1
              exact hK.out _ _ (Ext.refl _) hB rfl
            case s10 =>
              intro a w1 hF hB hdep K hK
              show K (a.put _ undef) w1
              exact hK.out _ _ (Ext.refl _) hB rfl
            case s11 =>
              intro a w1 hF hB hdep K hK
              show K (a.put _ undef) w1
              exact hK.out _ _ (Ext.refl _) hB rfl
            case s12 =>
              intro a w1 hF hB hdep K hK
              show K (a.put _ undef) w1
              exact hK.out _ _ (Ext.refl _) hB rfl
            case s13 =>
              intro a w1 hF hB hdep K hK
              show K (a.put _ undef) w1
              exact hK.out _ _ (Ext.refl _) hB rfl
            case s14 =>
              intro a w1 hF hB hdep K hK
              show K (a.put _ undef) w1
              exact hK.out _ _ (Ext.refl _) hB rfl
            case s15 =>
              intro a w1 hF hB hdep K hK
              show K (a.put _ undef) w1
              exact hK.out _ _ (Ext.refl _) hB rfl
            case s16 =>
              intro a w1 hF hB hdep K hK
              show K (a.put _ undef) w1
              exact hK.out _ _ (Ext.refl _) hB rfl
            case s17 =>
              intro a w1 hF hB hdep K hK
              show Oper.wp _ _ a w1 K _
              have e7 : a.tmps[125]?.getD undef = .bool true := ev_tmp3 (show a.eval (.tmp 125) = .bool true from hdep 7 (by decide))
              go_simp
              exact hK.out _ _ (Ext.refl _) hB rfl
            case s18 =>
              intro a w1 hF hB hdep K hK
              show Oper.wp _ _ a w1 K _
              have e17 : a.tmps[135]?.getD undef = .bool true := ev_tmp3 (show a.eval (.tmp 135) = .bool true from hdep 17 (by decide))
              go_simp
              exact hK.out _ _ (Ext.refl _) hB rfl
            case s19 =>
              intro a w1 hF hB hdep K hK
              show Oper.wp _ _ a w1 K _
              go_simp
              go_at_call 9
              refine (AW.out _).mono ?_
              rintro e w2 ⟨rfl, hb⟩
              go_simp
              exact hK.out _ _ (Ext.of_below hb) (hB.trans (hb.mono hB.size)) rfl
            case s20 =>
              intro a w1 hF hB hdep K hK
              show Oper.wp _ _ a w1 K _
              have e18 : a.tmps[136]?.getD undef = .bool true := ev_tmp3 (show a.eval (.tmp 136) = .bool true from hdep 18 (by decide))
              have e19 : a.tmps[137]?.getD undef = .bool true := ev_tmp3 (show a.eval (.tmp 137) = .bool true from hdep 19 (by decide))
              go_simp
              exact hK.out _ _ (Ext.refl _) hB rfl
            case s21 =>
              intro a w1 hF hB hdep K hK
              show Oper.wp _ _ a w1 K _
              have e20 : a.tmps[138]?.getD undef = .bool true := ev_tmp3 (show a.eval (.tmp 138) = .bool true from hdep 20 (by decide))
              go_simp
              exact hK.out _ _ (Ext.refl _) hB rfl
          case hm => kernel_rfl
          case hb => kernel_rfl
          case inj =>
            intro i j hi hj h
            have h1 : ((List.range 22).all fun i => (List.range 22).all fun j => !(dst16 i == dst16 j) || (i == j)) = true := by kernel_rfl
            have h2 := List.all_eq_true.1 (List.all_eq_true.1 h1 i (List.mem_range.2 hi)) j (List.mem_range.2 hj)
            simpa [h] using h2
          case dst => exact all_ops (AllFrom.cons rfl (AllFrom.cons rfl (AllFrom.cons rfl (AllFrom.cons rfl (AllFrom.cons rfl (AllFrom.cons rfl (AllFrom.cons rfl (AllFrom.cons rfl (AllFrom.cons rfl (AllFrom.cons rfl (AllFrom.cons rfl (AllFrom.cons rfl (AllFrom.cons rfl (AllFrom.cons rfl (AllFrom.cons rfl (AllFrom.cons rfl (AllFrom.cons rfl (AllFrom.cons rfl (AllFrom.cons rfl (AllFrom.cons rfl (AllFrom.cons rfl (AllFrom.cons rfl AllFrom.nil))))))))))))))))))))))
          case deps =>
            intro i hi j hj
            refine deps_of3 (deps := deps16N) ?_ i hi j hj
            kernel_rfl
          case want => exact all_ops (AllFrom.cons (fun U w hd => rfl) (AllFrom.cons (fun U w hd => rfl) (AllFrom.cons (fun U w hd => rfl) (AllFrom.cons (fun U w hd => wanted_of rfl (yielded_of (s := 120) (b := true) rfl ((show _ = some (U 120) from by kernel_rfl).trans (congrArg some (show U 120 = .bool true from hd 2 (by decide))))) rfl) (AllFrom.cons (fun U w hd => wanted_of rfl (yielded_of (s := 120) (b := true) rfl ((show _ = some (U 120) from by kernel_rfl).trans (congrArg some (show U 120 = .bool true from hd 2 (by decide))))) rfl) (AllFrom.cons (fun U w hd => wanted_of rfl (yielded_of (s := 120) (b := true) rfl ((show _ = some (U 120) from by kernel_rfl).trans (congrArg some (show U 120 = .bool true from hd 2 (by decide))))) rfl) (AllFrom.cons (fun U w hd => rfl) (AllFrom.cons (fun U w hd => rfl) (AllFrom.cons (fun U w hd => wanted_of rfl (yielded_of (s := 125) (b := true) rfl ((show _ = some (U 125) from by kernel_rfl).trans (congrArg some (show U 125 = .bool true from hd 7 (by decide))))) rfl) (AllFrom.cons (fun U w hd => wanted_of rfl (yielded_of (s := 125) (b := true) rfl ((show _ = some (U 125) from by kernel_rfl).trans (congrArg some (show U 125 = .bool true from hd 7 (by decide))))) rfl) (AllFrom.cons (fun U w hd => wanted_none rfl (yielded_none (s := 127) rfl ((show _ = some (U 127) from by kernel_rfl).trans (congrArg some (show U 127 = undef from hd 9 (by decide)))))) (AllFrom.cons (fun U w hd => wanted_none rfl (yielded_none (s := 127) rfl ((show _ = some (U 127) from by kernel_rfl).trans (congrArg some (show U 127 = undef from hd 9 (by decide)))))) (AllFrom.cons (fun U w hd => wanted_none rfl (yielded_none (s := 127) rfl ((show _ = some (U 127) from by kernel_rfl).trans (congrArg some (show U 127 = undef from hd 9 (by decide)))))) (AllFrom.cons (fun U w hd => wanted_none rfl (yielded_none (s := 127) rfl ((show _ = some (U 127) from by kernel_rfl).trans (congrArg some (show U 127 = undef from hd 9 (by decide)))))) (AllFrom.cons (fun U w hd => wanted_none rfl (yielded_none (s := 127) rfl ((show _ = some (U 127) from by kernel_rfl).trans (congrArg some (show U 127 = undef from hd 9 (by decide)))))) (AllFrom.cons (fun U w hd => wanted_none rfl (yielded_none (s := 127) rfl ((show _ = some (U 127) from by kernel_rfl).trans (congrArg some (show U 127 = undef from hd 9 (by decide)))))) (AllFrom.cons (fun U w hd => wanted_of rfl (yielded_of (s := 125) (b := true) rfl ((show _ = some (U 125) from by kernel_rfl).trans (congrArg some (show U 125 = .bool true from hd 7 (by decide))))) rfl) (AllFrom.cons (fun U w hd => rfl) (AllFrom.cons (fun U w hd => rfl) (AllFrom.cons (fun U w hd => wanted_of rfl (yielded_of (s := 136) (b := true) rfl ((show _ = some (U 136) from by kernel_rfl).trans (congrArg some (show U 136 = .bool true from hd 18 (by decide))))) rfl) (AllFrom.cons (fun U w hd => rfl) (AllFrom.cons (fun U w hd => rfl) AllFrom.nil))))))))))))))))))))))
          case put => exact all_ops (AllFrom.cons (fun _ _ => by kernel_rfl) (AllFrom.cons (fun _ _ => by kernel_rfl) (AllFrom.cons (fun _ _ => by kernel_rfl) (AllFrom.cons (fun _ _ => by kernel_rfl) (AllFrom.cons (fun _ _ => by kernel_rfl) (AllFrom.cons (fun _ _ => by kernel_rfl) (AllFrom.cons (fun _ _ => by kernel_rfl) (AllFrom.cons (fun _ _ => by kernel_rfl) (AllFrom.cons (fun _ _ => by kernel_rfl) (AllFrom.cons (fun _ _ => by kernel_rfl) (AllFrom.cons (fun _ _ => by kernel_rfl) (AllFrom.cons (fun _ _ => by kernel_rfl) (AllFrom.cons (fun _ _ => by kernel_rfl) (AllFrom.cons (fun _ _ => by kernel_rfl) (AllFrom.cons (fun _ _ => by kernel_rfl) (AllFrom.cons (fun _ _ => by kernel_rfl) (AllFrom.cons (fun _ _ => by kernel_rfl) (AllFrom.cons (fun _ _ => by kernel_rfl) (AllFrom.cons (fun _ _ => by kernel_rfl) (AllFrom.cons (fun _ _ => by kernel_rfl) (AllFrom.cons (fun _ _ => by kernel_rfl) (AllFrom.cons (fun _ _ => by kernel_rfl) AllFrom.nil))))))))))))))))))))))
          case ev => exact all_ops (AllFrom.cons (fun _ => by kernel_rfl) (AllFrom.cons (fun _ => by kernel_rfl) (AllFrom.cons (fun _ => by kernel_rfl) (AllFrom.cons (fun _ => by kernel_rfl) (AllFrom.cons (fun _ => by kernel_rfl) (AllFrom.cons (fun _ => by kernel_rfl) (AllFrom.cons (fun _ => by kernel_rfl) (AllFrom.cons (fun _ => by kernel_rfl) (AllFrom.cons (fun _ => by kernel_rfl) (AllFrom.cons (fun _ => by kernel_rfl) (AllFrom.cons (fun _ => by kernel_rfl) (AllFrom.cons (fun _ => by kernel_rfl) (AllFrom.cons (fun _ => by kernel_rfl) (AllFrom.cons (fun _ => by kernel_rfl) (AllFrom.cons (fun _ => by kernel_rfl) (AllFrom.cons (fun _ => by kernel_rfl) (AllFrom.cons (fun _ => by kernel_rfl) (AllFrom.cons (fun _ => by kernel_rfl) (AllFrom.cons (fun _ => by kernel_rfl) (AllFrom.cons (fun _ => by kernel_rfl) (AllFrom.cons (fun _ => by kernel_rfl) (AllFrom.cons (fun _ => by kernel_rfl) AllFrom.nil))))))))))))))))))))))
          case fr => exact fun U => ⟨by kernel_rfl, by kernel_rfl, by kernel_rfl⟩
          case done =>
            intro U w' hB hV
            have e1 : U 8 = .bool true := hV 21 (by decide)
            unfold frame16
            rw [e1]
            have HB9 := Lib.hid (HB6.out.trans (hB.mono HB6.out.size))
            clear hV e1 hB
            go_wp2_with fail
            go_ret
            exact ⟨rfl, HB9.out⟩
end Go.Proofs.Ytmdkbmafkglhdaa

