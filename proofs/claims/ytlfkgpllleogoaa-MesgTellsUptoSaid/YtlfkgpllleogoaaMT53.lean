/- MesgTellsA -/
import Derived.Test.YtlfkgpllleogoaaMT01
import Derived.Test.YtlfkgpllleogoaaMT03
import Derived.Test.YtlfkgpllleogoaaMT04
import Derived.Test.YtlfkgpllleogoaaMT05
import Derived.Test.YtlfkgpllleogoaaMT09
import Derived.Test.YtlfkgpllleogoaaMT16
import Derived.Test.YtlfkgpllleogoaaMT34
import Derived.Test.YtlfkgpllleogoaaMT35
import Derived.Test.YtlfkgpllleogoaaMT37
import Derived.Test.YtlfkgpllleogoaaMT39
import Derived.Test.YtlfkgpllleogoaaMT41
import Derived.Test.YtlfkgpllleogoaaMT42
import Derived.Test.YtlfkgpllleogoaaMT44
import Derived.Test.YtlfkgpllleogoaaMT50
import Derived.Test.YtlfkgpllleogoaaMT51
import Derived.Test.YtlfkgpllleogoaaMT52
import Derived.Below
import Derived.BigQuiet
import Derived.Deep.CutBlock
import Derived.Deep.DeepCutAuto
import Derived.Deep.MidRow
import Derived.Great.BuildSlice
import Derived.IntWalk
import Derived.Laws.BitsAllLaws
import Derived.Laws.OwnMore
import Derived.Lib.Hide
import Derived.Outline
import Derived.OwnWalk
import Derived.ProofKit
import Derived.Test.YtlfkgpllleogoaaRows
import Derived.WalkKit
import Derived.WalkSpells
import Init
namespace Go.Proofs.Ytlfkgpllleogoaa
open Go.RowKit
set_option linter.unusedVariables false
inductive KF where
  | eq (u : Value)
  | row (L : List Nat)
  | any
def VF (ks : List KF) (i : Nat) (v : Value) (w : World) : Prop := match ks[i]? with
  | some (.eq u) => v = u
  | some (.row L) => ∃ A c, v = .slice A L.length c ∧ Rd w w.heap.size A L.length (bv L) ∧ L.length ≤ c
  | _ => True
theorem VF.ext (ks : List KF) (i : Nat) (v : Value) (w w' : World) (h : VF ks i v w) (he : Ext w w') : VF ks i v w' := by
  unfold VF at h ⊢
  cases hk : ks[i]? with
  | none => trivial
  | some k =>
    rw [hk] at h
    cases k with
    | eq u => exact h
    | row L => obtain ⟨A, c, h1, h2, h3⟩ := h; exact ⟨A, c, h1, h2.keep he.2 he.1, h3⟩
    | any => trivial
theorem wanted_ofF {o : Oper} {y : Nat → Option Bool} {j : Nat} {b c r : Bool} (hg : o.guard = some (j, b)) (hy : y j = some c) (hr : (c == b) = r) : Region.wanted o y = r := by
  subst hr; unfold Region.wanted; rw [hg]; simp [hy]
theorem yielded_ofF {ops : Array Oper} {tmps : Array Value} {j s : Nat} {b : Bool} (ho : (ops[j]?).bind (·.dst) = some s) (ht : tmps[s]? = some (.bool b)) : yielded ops tmps j = some b := by
  unfold yielded; rw [ho, Option.bind_some, ht]
theorem deps_ofF {md : Region.Mode} {ops : Array Oper} {deps : Nat → List Nat} (h : ((List.range ops.size).all fun i => (deps i).all fun j => Region.waitsFor md ops i j) = true) : ∀ i, i < ops.size → ∀ j ∈ deps i, Region.waitsFor md ops i j = true := by
  intro i hi j hj
  exact List.all_eq_true.1 (List.all_eq_true.1 h i (List.mem_range.2 hi)) j hj
theorem ev_tmpF {a : Act} {t : Nat} {v : Value} (h : a.eval (.tmp t) = v) : a.tmps[t]?.getD undef = v := by rw [← h]; simp [Act.eval]
def dstR13 (i : Nat) : Nat := ([95, 96, 97, 98, 99, 100, 101, 102, 103, 104, 105, 106, 107, 108, 109, 110] : List Nat).getD i 0
def depsR13 (i : Nat) : List Nat := ([[], [0], [1], [], [3], [4], [2, 5], [6], [7], [7], [8, 9, 7], [7], [7], [11, 12, 7], [10, 13, 7], [7, 14]] : List (List Nat)).getD i []
def FrR13 (g1 gy : Nat) (aM ax : GA) (M X : Mg) (LM : List Nat) (D : Bool) (a : Act) : Prop := a.eval (.tmp 13) = .pointer (some ⟨g1, 0, none⟩) ∧ a.eval (.tmp 18) = .pointer (some ⟨gy, 0, none⟩)
def kindsR13 (g1 gy : Nat) (aM ax : GA) (M X : Mg) (LM : List Nat) (D : Bool) : List KF := [.eq (.agg (msgC aM M)), .row LM, .eq (.string (strB LM)), .eq (.agg (msgC aM M)), .row LM, .eq (.string (strB LM)), .eq (.bool false), .eq (.bool false), .eq (.agg (msgC aM M)), .eq (.agg (msgC ax X)), .eq (.bool D), .eq (.agg (msgC aM M)), .eq (.agg (msgC ax X)), .eq (.bool D), .eq (.bool false), .eq (.bool false)]
def frameR13 (g1 gy : Nat) (aM ax : GA) (M X : Mg) (LM : List Nat) (D : Bool) (x0 x1 x2 x3 x4 x5 x6 x7 x8 x9 x10 x11 x12 x14 x15 x16 x17 x19 x20 x21 x22 x23 x24 x25 x26 x27 x28 x29 x30 x31 x32 x33 x34 x35 x36 x37 x38 x39 x40 x41 x42 x43 x44 x45 x46 x47 x48 x49 x50 x51 x52 x53 x54 x55 x56 x57 x58 x59 x60 x61 x62 x63 x64 x65 x66 x67 x68 x69 x70 x71 x72 x73 x74 x75 x76 x77 x78 x79 x80 x81 x82 x83 x84 x85 x86 x87 x88 x89 x90 x91 x92 x93 x94 x111 x112 x113 x114 x115 x116 x117 x118 x119 x120 x121 x122 x123 x124 x125 x126 x127 x128 x129 x130 x131 x132 x133 x134 x135 x136 x137 x138 x139 x140 x141 x142 x143 x144 x145 x146 x147 x148 x149 x150 : Value) (U : Nat → Value) : Act := { tmps := List.toArray (x0 :: x1 :: x2 :: x3 :: x4 :: x5 :: x6 :: x7 :: x8 :: x9 :: x10 :: x11 :: x12 :: .pointer (some ⟨g1, 0, none⟩) :: x14 :: x15 :: x16 :: x17 :: .pointer (some ⟨gy, 0, none⟩) :: x19 :: x20 :: x21 :: x22 :: x23 :: x24 :: x25 :: x26 :: x27 :: x28 :: x29 :: x30 :: x31 :: x32 :: x33 :: x34 :: x35 :: x36 :: x37 :: x38 :: x39 :: x40 :: x41 :: x42 :: x43 :: x44 :: x45 :: x46 :: x47 :: x48 :: x49 :: x50 :: x51 :: x52 :: x53 :: x54 :: x55 :: x56 :: x57 :: x58 :: x59 :: x60 :: x61 :: x62 :: x63 :: x64 :: x65 :: x66 :: x67 :: x68 :: x69 :: x70 :: x71 :: x72 :: x73 :: x74 :: x75 :: x76 :: x77 :: x78 :: x79 :: x80 :: x81 :: x82 :: x83 :: x84 :: x85 :: x86 :: x87 :: x88 :: x89 :: x90 :: x91 :: x92 :: x93 :: x94 :: U 95 :: U 96 :: U 97 :: U 98 :: U 99 :: U 100 :: U 101 :: U 102 :: U 103 :: U 104 :: U 105 :: U 106 :: U 107 :: U 108 :: U 109 :: U 110 :: x111 :: x112 :: x113 :: x114 :: x115 :: x116 :: x117 :: x118 :: x119 :: x120 :: x121 :: x122 :: x123 :: x124 :: x125 :: x126 :: x127 :: x128 :: x129 :: x130 :: x131 :: x132 :: x133 :: x134 :: x135 :: x136 :: x137 :: x138 :: x139 :: x140 :: x141 :: x142 :: x143 :: x144 :: x145 :: x146 :: x147 :: x148 :: x149 :: x150 :: []), defers := [] }
structure MgL (n m : Int) (M : Mg) (L : List Nat) : Prop where
  wide : M.Wide
  enc : M.enc = L
  len : 4 ≤ L.length ∧ L.length ≤ 290
  lt : ∀ x ∈ L, x < 256
  msg : ∀ wx, Calls Try.prog 14 #[.int .i64 n, .int .i64 m] wx fun e w' => ∃ a : GA, e = .returned (.agg #[.int .i64 M.kind, .int .i64 M.frm, .int .i64 M.dst, .int .i64 M.view, .int .i64 M.inst, .int .i64 M.len, .bool M.has, .int .i64 M.mem, .int .i64 M.src, .int .i64 M.pos, .int .i64 M.tot, .slice a.Ad M.data.length a.cd, .int .i64 M.hop, .int .i64 M.seq, .slice a.Ah M.hav.length a.ch, .slice a.An M.nee.length a.cn, .int .i64 M.idx, .int .i64 M.ent.s, .int .i64 M.ent.q, .int .i64 M.ent.c.kind, .int .i64 M.ent.c.who, .slice a.c.Ak M.ent.c.key.length a.c.ck, .slice a.c.Av M.ent.c.val.length a.c.cv, .slice a.c.Ao M.ent.c.old.length a.c.co]) ∧ RdG w' w'.heap.size a M ∧ Below wx.heap.size wx w'
theorem mgL (n m : Int) : ∃ M L, MgL n m M L := by
  have hok := mgOf_ok n m
  have h1 := Fr.enc_len hok
  have h2 := Fr.enc_len4 hok
  exact ⟨_, _, mgOf_wide n m, rfl, ⟨h2, h1⟩, Mg.enc_lt hok (mgOf_wide n m), fun wx => msg_any n m wx⟩
theorem wpList_load_rowW {P : Program} {ops : Array Oper} {rest : List Oper} {o : Oper} {a : Act} {w : World} {Q : Exit → Act → World → Prop} (hgd : Region.wanted o (yielded ops a.tmps) = true) (ty : TypeId) (x : Operand) (ho : o.op = .load ty x)
    (g : Nat) (hx : a.eval x = .pointer (some ⟨g, 0, none⟩)) (t : TypeId) (cs : Array Value) (fr : Nat × Nat) (d : TypeDesc) (hg : w.heap[g]? = some (.cells cs t fr))
    (hu : P.underlying ty = some d) (hd : (match d with | .struct _ | .array _ _ => true | _ => false) = true) (hi : (P.info? ty).map (·.size) = some cs.size)
    (h : wpList P ops Q rest (a.put o.dst (.agg cs)) w) : wpList P ops Q (o :: rest) a w :=
  wpList_step fun K hK => by rw [if_pos hgd]; exact wp_load_row ty x ho g hx t cs fr d hg hu hd hi (hK _ _ h)
theorem dec_wideD {l : List Nat} (hb : ∀ x ∈ l, x < 256) : ((Mg.dec l).getD Mg.zero).Wide := by
  cases h : Mg.dec l with
  | none => exact Mg.Wide.zero
  | some m => exact Mg.dec_wide hb h
/-- two messages side by side -/
def TabM (w : World) (b : Nat) (g0 ax : GA) (m0 X : Mg) : Prop := b < w.heap.size ∧ (∀ t u, (msgC g0 m0)[t]? = some u → w.cell? ⟨b, t, none⟩ = some u) ∧ (∀ t u, (msgC ax X)[t]? = some u → w.cell? ⟨b, 24 + t, none⟩ = some u)
theorem TabM.below {w w' : World} {b : Nat} {g0 ax : GA} {m0 X : Mg} (h : TabM w b g0 ax m0 X) (hb : Below w.heap.size w w') : TabM w' b g0 ax m0 X := by
  obtain ⟨h1, h2, h3⟩ := h
  exact ⟨Nat.lt_of_lt_of_le h1 hb.size, fun t u hu => (hb.cell (p := ⟨b, t, none⟩) h1).trans (h2 t u hu), fun t u hu => (hb.cell (p := ⟨b, 24 + t, none⟩) h1).trans (h3 t u hu)⟩
set_option maxRecDepth 100000 in
theorem wpList_build2 {ops : Array Oper} {rest : List Oper} {o : Oper} {a : Act} {w : World} {Q : Exit → Act → World → Prop} {g0 ax : GA} {m0 X : Mg} (hg : o.guard = none) (ho : o.op = .buildSlice 33 2 #[(0, .tmp 87), (1, .tmp 88)]) (e0 : a.eval (.tmp 87) = .agg (msgC g0 m0)) (e1 : a.eval (.tmp 88) = .agg (msgC ax X))
    (h : ∀ b w2, Below w.heap.size w w2 → TabM w2 b g0 ax m0 X → wpList Try.prog ops Q rest (a.put o.dst (.slice (some ⟨b, 0, none⟩) 2 2)) w2) : wpList Try.prog ops Q (o :: rest) a w := by
  obtain ⟨ie, z, g1, g2, g3⟩ : ∃ ie z, (Try.prog).info? 29 = some ie ∧ ie.zero = some z ∧ ie.size = 24 := ⟨_, _, rfl, rfl, by kernel_rfl⟩
  obtain ⟨r, hr, hrs, hk⟩ := Great.fill_dense (s := 24) (by omega) [a.eval (.tmp 87), a.eval (.tmp 88)] 0 ((Array.range (2 * 24)).map (z.cells[· % z.cells.size]!)) (by rw [e0, e1]; simp [Value.cells, msgC]) (by simp)
  refine wpList_plain hg fun K hK => ?_
  refine wp_buildSlice 33 29 2 #[(0, .tmp 87), (1, .tmp 88)] ho r ie z Try.underlying33 g1 g2 (by rw [g3]; decide) (by rw [g3]; decide) (by rw [g3, Array.toList_map]; exact hr) ?_
  refine hK _ _ (h w.heap.size _ ((Below.refl _ _).alloc (Nat.le_refl _) _) ?_)
  refine ⟨by simp, fun t u hu => ?_, fun t u hu => ?_⟩
  · have ht : t < 24 := (Array.getElem?_eq_some_iff.1 hu).1
    rw [World.cell?_alloc_mark, hk t, if_pos (by simp; omega), show t / 24 - 0 = 0 by omega, show t % 24 = t by omega]
    simp only [List.getElem?_cons_zero, Option.bind_some, e0]
    exact hu
  · have ht : t < 24 := (Array.getElem?_eq_some_iff.1 hu).1
    rw [World.cell?_alloc_mark, hk (24 + t), if_pos (by simp; omega), show (24 + t) / 24 - 0 = 1 by omega, show (24 + t) % 24 = t by omega]
    simp only [List.getElem?_cons_succ, List.getElem?_cons_zero, Option.bind_some, e1]
    exact hu
theorem rowM {w : World} {b k : Nat} {g0 ax : GA} {m0 X : Mg} (hT : TabM w b g0 ax m0 X) (h0 : RdG w w.heap.size g0 m0) (h1 : RdG w w.heap.size ax X) (hw : m0.Wide) (hw' : X.Wide) (hk : k < 2) : ∃ aM M, (∀ t u, (msgC aM M)[t]? = some u → w.cell? ⟨b, k * 24 + t, none⟩ = some u) ∧ RdG w w.heap.size aM M ∧ M.Wide := by
  obtain ⟨_, h2, h3⟩ := hT
  rcases (show k = 0 ∨ k = 1 by omega) with rfl | rfl
  · exact ⟨g0, m0, fun t u hu => by rw [show 0 * 24 + t = t by omega]; exact h2 t u hu, h0, hw⟩
  · exact ⟨ax, X, fun t u hu => by rw [show 1 * 24 + t = 24 + t by omega]; exact h3 t u hu, h1, hw'⟩
set_option maxHeartbeats 8000000 in
set_option maxRecDepth 100000 in
theorem mesgTells_raw (g0 : GA) (m0 : Mg) (n m : Int) (A : Option Addr) (cap : Nat) (l : List Nat) (at_ : Int) (y : Nat) (hy : y < 256) (w : World) (hm : IsMsg w g0 m0) (he : m0.ent.c.key.length ≤ 1048576 ∧ m0.ent.c.val.length ≤ 1048576 ∧ m0.ent.c.old.length ≤ 1048576) (hl : Rd w w.heap.size A l.length (bv l)) (hlc : l.length ≤ cap ∧ cap ≤ maxLen) (hlt : ∀ x ∈ l, x < 256) :
    Calls Try.prog 3 #[.agg #[.int .i64 m0.kind, .int .i64 m0.frm, .int .i64 m0.dst, .int .i64 m0.view, .int .i64 m0.inst, .int .i64 m0.len, .bool m0.has, .int .i64 m0.mem, .int .i64 m0.src, .int .i64 m0.pos, .int .i64 m0.tot, .slice g0.Ad m0.data.length g0.cd, .int .i64 m0.hop, .int .i64 m0.seq, .slice g0.Ah m0.hav.length g0.ch, .slice g0.An m0.nee.length g0.cn, .int .i64 m0.idx, .int .i64 m0.ent.s, .int .i64 m0.ent.q, .int .i64 m0.ent.c.kind, .int .i64 m0.ent.c.who, .slice g0.c.Ak m0.ent.c.key.length g0.c.ck, .slice g0.c.Av m0.ent.c.val.length g0.c.cv, .slice g0.c.Ao m0.ent.c.old.length g0.c.co], .int .i64 n, .int .i64 m, .slice A l.length cap, .int .i64 at_, .int .u8 (y : Int)] w fun e w' => e = .returned (.bool true) ∧ Below w.heap.size w w' := by
  have AW : Hid (∀ wx, Calls Try.prog 13 #[] wx fun e w' => e = .returned (.bool true) ∧ Below wx.heap.size wx w') := Lib.hid (mesgAwake encode11 decode11 (fun w _ _ _ _ _ _ h1 h2 h3 h4 => same11 w h1 h2 h3 h4))
  have HM := Lib.hid hm
  have HE := Lib.hid he
  have HL := Lib.hid hl
  have HLC := Lib.hid hlc
  have HLT := Lib.hid hlt
  have HY := Lib.hid hy
  clear hm he hl hlt hlc hy
  go_enter Try.func3, Try.ntmps3
  go_upto_region 1 with fail
  have b1 : Below w.heap.size w (w.alloc (.cells #[.int .i64 m0.kind, .int .i64 m0.frm, .int .i64 m0.dst, .int .i64 m0.view, .int .i64 m0.inst, .int .i64 m0.len, .bool m0.has, .int .i64 m0.mem, .int .i64 m0.src, .int .i64 m0.pos, .int .i64 m0.tot, .slice g0.Ad m0.data.length g0.cd, .int .i64 m0.hop, .int .i64 m0.seq, .slice g0.Ah m0.hav.length g0.ch, .slice g0.An m0.nee.length g0.cn, .int .i64 m0.idx, .int .i64 m0.ent.s, .int .i64 m0.ent.q, .int .i64 m0.ent.c.kind, .int .i64 m0.ent.c.who, .slice g0.c.Ak m0.ent.c.key.length g0.c.ck, .slice g0.c.Av m0.ent.c.val.length g0.c.cv, .slice g0.c.Ao m0.ent.c.old.length g0.c.co] 29)) := (Below.refl _ _).alloc (Nat.le_refl _) _
  have k1 : Blk (w.alloc (.cells #[.int .i64 m0.kind, .int .i64 m0.frm, .int .i64 m0.dst, .int .i64 m0.view, .int .i64 m0.inst, .int .i64 m0.len, .bool m0.has, .int .i64 m0.mem, .int .i64 m0.src, .int .i64 m0.pos, .int .i64 m0.tot, .slice g0.Ad m0.data.length g0.cd, .int .i64 m0.hop, .int .i64 m0.seq, .slice g0.Ah m0.hav.length g0.ch, .slice g0.An m0.nee.length g0.cn, .int .i64 m0.idx, .int .i64 m0.ent.s, .int .i64 m0.ent.q, .int .i64 m0.ent.c.kind, .int .i64 m0.ent.c.who, .slice g0.c.Ak m0.ent.c.key.length g0.c.ck, .slice g0.c.Av m0.ent.c.val.length g0.c.cv, .slice g0.c.Ao m0.ent.c.old.length g0.c.co] 29)) w.heap.size 29 #[.int .i64 m0.kind, .int .i64 m0.frm, .int .i64 m0.dst, .int .i64 m0.view, .int .i64 m0.inst, .int .i64 m0.len, .bool m0.has, .int .i64 m0.mem, .int .i64 m0.src, .int .i64 m0.pos, .int .i64 m0.tot, .slice g0.Ad m0.data.length g0.cd, .int .i64 m0.hop, .int .i64 m0.seq, .slice g0.Ah m0.hav.length g0.ch, .slice g0.An m0.nee.length g0.cn, .int .i64 m0.idx, .int .i64 m0.ent.s, .int .i64 m0.ent.q, .int .i64 m0.ent.c.kind, .int .i64 m0.ent.c.who, .slice g0.c.Ak m0.ent.c.key.length g0.c.ck, .slice g0.c.Av m0.ent.c.val.length g0.c.cv, .slice g0.c.Ao m0.ent.c.old.length g0.c.co] := Blk.new w 29 #[.int .i64 m0.kind, .int .i64 m0.frm, .int .i64 m0.dst, .int .i64 m0.view, .int .i64 m0.inst, .int .i64 m0.len, .bool m0.has, .int .i64 m0.mem, .int .i64 m0.src, .int .i64 m0.pos, .int .i64 m0.tot, .slice g0.Ad m0.data.length g0.cd, .int .i64 m0.hop, .int .i64 m0.seq, .slice g0.Ah m0.hav.length g0.ch, .slice g0.An m0.nee.length g0.cn, .int .i64 m0.idx, .int .i64 m0.ent.s, .int .i64 m0.ent.q, .int .i64 m0.ent.c.kind, .int .i64 m0.ent.c.who, .slice g0.c.Ak m0.ent.c.key.length g0.c.ck, .slice g0.c.Av m0.ent.c.val.length g0.c.cv, .slice g0.c.Ao m0.ent.c.old.length g0.c.co]
  obtain ⟨g, hg⟩ : ∃ g, w.heap.size = g := ⟨_, rfl⟩
  generalize w.alloc (.cells #[.int .i64 m0.kind, .int .i64 m0.frm, .int .i64 m0.dst, .int .i64 m0.view, .int .i64 m0.inst, .int .i64 m0.len, .bool m0.has, .int .i64 m0.mem, .int .i64 m0.src, .int .i64 m0.pos, .int .i64 m0.tot, .slice g0.Ad m0.data.length g0.cd, .int .i64 m0.hop, .int .i64 m0.seq, .slice g0.Ah m0.hav.length g0.ch, .slice g0.An m0.nee.length g0.cn, .int .i64 m0.idx, .int .i64 m0.ent.s, .int .i64 m0.ent.q, .int .i64 m0.ent.c.kind, .int .i64 m0.ent.c.who, .slice g0.c.Ak m0.ent.c.key.length g0.c.ck, .slice g0.c.Av m0.ent.c.val.length g0.c.cv, .slice g0.c.Ao m0.ent.c.old.length g0.c.co] 29) = w1 at b1 k1 ⊢
  have HB1 := Lib.hid b1
  have HM1 := Lib.hid (HM.out.rd.below' b1)
  have HL1 := Lib.hid (HL.out.below b1).fit
  rw [hg] at k1 ⊢
  have HK1 := Lib.hid k1
  clear hg b1
  have y11 : w1.cell? ⟨g, 11, none⟩ = some (.slice g0.Ad m0.data.length g0.cd) := k1.cell 11
  have y14 : w1.cell? ⟨g, 14, none⟩ = some (.slice g0.Ah m0.hav.length g0.ch) := k1.cell 14
  have y15 : w1.cell? ⟨g, 15, none⟩ = some (.slice g0.An m0.nee.length g0.cn) := k1.cell 15
  have y21 : w1.cell? ⟨g, 21, none⟩ = some (.slice g0.c.Ak m0.ent.c.key.length g0.c.ck) := k1.cell 21
  have y22 : w1.cell? ⟨g, 22, none⟩ = some (.slice g0.c.Av m0.ent.c.val.length g0.c.cv) := k1.cell 22
  have y23 : w1.cell? ⟨g, 23, none⟩ = some (.slice g0.c.Ao m0.ent.c.old.length g0.c.co) := k1.cell 23
  obtain ⟨hm2, hm3, hm4⟩ := HE.out
  have hs1 : IntKind.i64.wrap ((m0.ent.c.key.length : Int) + (m0.ent.c.val.length : Int)) = (m0.ent.c.key.length : Int) + (m0.ent.c.val.length : Int) := IntWalk.i64_in _ (by omega)
  have hs2 : IntKind.i64.wrap ((m0.ent.c.key.length : Int) + (m0.ent.c.val.length : Int) + (m0.ent.c.old.length : Int)) = (m0.ent.c.key.length : Int) + (m0.ent.c.val.length : Int) + (m0.ent.c.old.length : Int) := IntWalk.i64_in _ (by omega)
  clear k1 hm2 hm3 hm4
  obtain ⟨D1, d1⟩ : ∃ D : Bool, decide ((200 : Int) < (l.length : Int)) = D := ⟨_, rfl⟩
  obtain ⟨D2, d2⟩ : ∃ D : Bool, decide ((100 : Int) < (m0.data.length : Int)) = D := ⟨_, rfl⟩
  obtain ⟨D3, d3⟩ : ∃ D : Bool, decide ((20 : Int) < (m0.hav.length : Int)) = D := ⟨_, rfl⟩
  obtain ⟨D4, d4⟩ : ∃ D : Bool, decide ((20 : Int) < (m0.nee.length : Int)) = D := ⟨_, rfl⟩
  obtain ⟨D5, d5⟩ : ∃ D : Bool, decide ((150 : Int) < (m0.ent.c.key.length : Int) + (m0.ent.c.val.length : Int) + (m0.ent.c.old.length : Int)) = D := ⟨_, rfl⟩
  cases D1 with
  | true =>
    go_wp2_with (first
      | (go_at_call 13; refine (AW.out _).mono ?_; rintro e w6 ⟨rfl, hb6⟩)
      | fail)
    go_ret
    exact ⟨rfl, HB1.out.trans (hb6.mono HB1.out.size)⟩
  | false =>
  cases D2 with
  | true =>
    go_wp2_with (first
      | (go_at_call 13; refine (AW.out _).mono ?_; rintro e w6 ⟨rfl, hb6⟩)
      | fail)
    go_ret
    exact ⟨rfl, HB1.out.trans (hb6.mono HB1.out.size)⟩
  | false =>
  cases D3 with
  | true =>
    go_wp2_with (first
      | (go_at_call 13; refine (AW.out _).mono ?_; rintro e w6 ⟨rfl, hb6⟩)
      | fail)
    go_ret
    exact ⟨rfl, HB1.out.trans (hb6.mono HB1.out.size)⟩
  | false =>
  cases D4 with
  | true =>
    go_wp2_with (first
      | (go_at_call 13; refine (AW.out _).mono ?_; rintro e w6 ⟨rfl, hb6⟩)
      | fail)
    go_ret
    exact ⟨rfl, HB1.out.trans (hb6.mono HB1.out.size)⟩
  | false =>
  cases D5 with
  | true =>
    go_wp2_with (first
      | (go_at_call 13; refine (AW.out _).mono ?_; rintro e w6 ⟨rfl, hb6⟩)
      | fail)
    go_ret
    exact ⟨rfl, HB1.out.trans (hb6.mono HB1.out.size)⟩
  | false =>
  have HWD0 : Hid m0.Wide := Lib.hid ⟨⟨by have := of_decide_eq_false d2; omega, HM.out.d⟩, by have := of_decide_eq_false d3; omega, by have := of_decide_eq_false d4; omega, ⟨⟨by have := of_decide_eq_false d5; omega, HM.out.c.key⟩, ⟨by have := of_decide_eq_false d5; omega, HM.out.c.val⟩, ⟨by have := of_decide_eq_false d5; omega, HM.out.c.old⟩⟩⟩
  have HL200 : Hid (l.length ≤ 200) := Lib.hid (by have := of_decide_eq_false d1; omega)
  obtain ⟨X, L, hF⟩ := mgL n m
  have F := Lib.hid hF
  have C1 := Lib.hid hF.msg
  clear hF HE
  go_upto_region 3 with fail
  clear y11 y14 y15 y21 y22 y23 hs1 hs2 d1 d2 d3 d4 d5
  go_upto_region 4 with (first
    | (go_at_call 14; refine (C1.out _).mono ?_; rintro e1 w2 ⟨ax, rfl, hrx, hb2⟩
       have HX := Lib.hid hrx
       have HB2 := Lib.hid (HB1.out.trans (hb2.mono HB1.out.size))
       have HK1 := Lib.hid (HK1.out.below hb2)
       have HM1 := Lib.hid (HM1.out.below' hb2)
       have HL1 := Lib.hid (HL1.out.below hb2).fit
       have Z5 := Lib.hid (Blk.new w2 29 #[.int .i64 0, .int .i64 0, .int .i64 0, .int .i64 0, .int .i64 0, .int .i64 0, .bool false, .int .i64 0, .int .i64 0, .int .i64 0, .int .i64 0, .slice none 0 0, .int .i64 0, .int .i64 0, .slice none 0 0, .slice none 0 0, .int .i64 0, .int .i64 0, .int .i64 0, .int .i64 0, .int .i64 0, .slice none 0 0, .slice none 0 0, .slice none 0 0])
       clear hrx hb2 C1)
    | (refine wpList_store_row rfl 29 (.tmp 13) (.tmp 69) rfl w2.heap.size #[.int .i64 X.kind, .int .i64 X.frm, .int .i64 X.dst, .int .i64 X.view, .int .i64 X.inst, .int .i64 X.len, .bool X.has, .int .i64 X.mem, .int .i64 X.src, .int .i64 X.pos, .int .i64 X.tot, .slice ax.Ad X.data.length ax.cd, .int .i64 X.hop, .int .i64 X.seq, .slice ax.Ah X.hav.length ax.ch, .slice ax.An X.nee.length ax.cn, .int .i64 X.idx, .int .i64 X.ent.s, .int .i64 X.ent.q, .int .i64 X.ent.c.kind, .int .i64 X.ent.c.who, .slice ax.c.Ak X.ent.c.key.length ax.c.ck, .slice ax.c.Av X.ent.c.val.length ax.c.cv, .slice ax.c.Ao X.ent.c.old.length ax.c.co] rfl rfl 29 #[.int .i64 0, .int .i64 0, .int .i64 0, .int .i64 0, .int .i64 0, .int .i64 0, .bool false, .int .i64 0, .int .i64 0, .int .i64 0, .int .i64 0, .slice none 0 0, .int .i64 0, .int .i64 0, .slice none 0 0, .slice none 0 0, .int .i64 0, .int .i64 0, .int .i64 0, .int .i64 0, .int .i64 0, .slice none 0 0, .slice none 0 0, .slice none 0 0] Z5.out (by kernel_rfl) rfl (by kernel_rfl) ?_)
    | fail)
  have b23 : Below w2.heap.size w2 ((w2.alloc (.cells #[.int .i64 0, .int .i64 0, .int .i64 0, .int .i64 0, .int .i64 0, .int .i64 0, .bool false, .int .i64 0, .int .i64 0, .int .i64 0, .int .i64 0, .slice none 0 0, .int .i64 0, .int .i64 0, .slice none 0 0, .slice none 0 0, .int .i64 0, .int .i64 0, .int .i64 0, .int .i64 0, .int .i64 0, .slice none 0 0, .slice none 0 0, .slice none 0 0] 29)).setRow w2.heap.size #[.int .i64 X.kind, .int .i64 X.frm, .int .i64 X.dst, .int .i64 X.view, .int .i64 X.inst, .int .i64 X.len, .bool X.has, .int .i64 X.mem, .int .i64 X.src, .int .i64 X.pos, .int .i64 X.tot, .slice ax.Ad X.data.length ax.cd, .int .i64 X.hop, .int .i64 X.seq, .slice ax.Ah X.hav.length ax.ch, .slice ax.An X.nee.length ax.cn, .int .i64 X.idx, .int .i64 X.ent.s, .int .i64 X.ent.q, .int .i64 X.ent.c.kind, .int .i64 X.ent.c.who, .slice ax.c.Ak X.ent.c.key.length ax.c.ck, .slice ax.c.Av X.ent.c.val.length ax.c.cv, .slice ax.c.Ao X.ent.c.old.length ax.c.co]) := below_setRow ((Below.refl _ _).alloc (Nat.le_refl _) _) (Nat.le_refl _) _
  have k5 : Blk ((w2.alloc (.cells #[.int .i64 0, .int .i64 0, .int .i64 0, .int .i64 0, .int .i64 0, .int .i64 0, .bool false, .int .i64 0, .int .i64 0, .int .i64 0, .int .i64 0, .slice none 0 0, .int .i64 0, .int .i64 0, .slice none 0 0, .slice none 0 0, .int .i64 0, .int .i64 0, .int .i64 0, .int .i64 0, .int .i64 0, .slice none 0 0, .slice none 0 0, .slice none 0 0] 29)).setRow w2.heap.size #[.int .i64 X.kind, .int .i64 X.frm, .int .i64 X.dst, .int .i64 X.view, .int .i64 X.inst, .int .i64 X.len, .bool X.has, .int .i64 X.mem, .int .i64 X.src, .int .i64 X.pos, .int .i64 X.tot, .slice ax.Ad X.data.length ax.cd, .int .i64 X.hop, .int .i64 X.seq, .slice ax.Ah X.hav.length ax.ch, .slice ax.An X.nee.length ax.cn, .int .i64 X.idx, .int .i64 X.ent.s, .int .i64 X.ent.q, .int .i64 X.ent.c.kind, .int .i64 X.ent.c.who, .slice ax.c.Ak X.ent.c.key.length ax.c.ck, .slice ax.c.Av X.ent.c.val.length ax.c.cv, .slice ax.c.Ao X.ent.c.old.length ax.c.co]) w2.heap.size 29 #[.int .i64 X.kind, .int .i64 X.frm, .int .i64 X.dst, .int .i64 X.view, .int .i64 X.inst, .int .i64 X.len, .bool X.has, .int .i64 X.mem, .int .i64 X.src, .int .i64 X.pos, .int .i64 X.tot, .slice ax.Ad X.data.length ax.cd, .int .i64 X.hop, .int .i64 X.seq, .slice ax.Ah X.hav.length ax.ch, .slice ax.An X.nee.length ax.cn, .int .i64 X.idx, .int .i64 X.ent.s, .int .i64 X.ent.q, .int .i64 X.ent.c.kind, .int .i64 X.ent.c.who, .slice ax.c.Ak X.ent.c.key.length ax.c.ck, .slice ax.c.Av X.ent.c.val.length ax.c.cv, .slice ax.c.Ao X.ent.c.old.length ax.c.co] := Z5.out.row _
  generalize (w2.alloc (.cells #[.int .i64 0, .int .i64 0, .int .i64 0, .int .i64 0, .int .i64 0, .int .i64 0, .bool false, .int .i64 0, .int .i64 0, .int .i64 0, .int .i64 0, .slice none 0 0, .int .i64 0, .int .i64 0, .slice none 0 0, .slice none 0 0, .int .i64 0, .int .i64 0, .int .i64 0, .int .i64 0, .int .i64 0, .slice none 0 0, .slice none 0 0, .slice none 0 0] 29)).setRow w2.heap.size #[.int .i64 X.kind, .int .i64 X.frm, .int .i64 X.dst, .int .i64 X.view, .int .i64 X.inst, .int .i64 X.len, .bool X.has, .int .i64 X.mem, .int .i64 X.src, .int .i64 X.pos, .int .i64 X.tot, .slice ax.Ad X.data.length ax.cd, .int .i64 X.hop, .int .i64 X.seq, .slice ax.Ah X.hav.length ax.ch, .slice ax.An X.nee.length ax.cn, .int .i64 X.idx, .int .i64 X.ent.s, .int .i64 X.ent.q, .int .i64 X.ent.c.kind, .int .i64 X.ent.c.who, .slice ax.c.Ak X.ent.c.key.length ax.c.ck, .slice ax.c.Av X.ent.c.val.length ax.c.cv, .slice ax.c.Ao X.ent.c.old.length ax.c.co] = w3 at b23 k5 ⊢
  obtain ⟨g1, hg1⟩ : ∃ h5, w2.heap.size = h5 := ⟨_, rfl⟩
  have HX := Lib.hid (HX.out.below' b23)
  have HB := Lib.hid (HB2.out.trans (b23.mono HB2.out.size))
  have HK1 := Lib.hid (HK1.out.below b23)
  have HM1 := Lib.hid (HM1.out.below' b23)
  have HL1 := Lib.hid (HL1.out.below b23).fit
  rw [hg1] at k5 ⊢
  have HK2 : Hid (Blk w3 g1 29 #[.int .i64 X.kind, .int .i64 X.frm, .int .i64 X.dst, .int .i64 X.view, .int .i64 X.inst, .int .i64 X.len, .bool X.has, .int .i64 X.mem, .int .i64 X.src, .int .i64 X.pos, .int .i64 X.tot, .slice ax.Ad X.data.length ax.cd, .int .i64 X.hop, .int .i64 X.seq, .slice ax.Ah X.hav.length ax.ch, .slice ax.An X.nee.length ax.cn, .int .i64 X.idx, .int .i64 X.ent.s, .int .i64 X.ent.q, .int .i64 X.ent.c.kind, .int .i64 X.ent.c.who, .slice ax.c.Ak X.ent.c.key.length ax.c.ck, .slice ax.c.Av X.ent.c.val.length ax.c.cv, .slice ax.c.Ao X.ent.c.old.length ax.c.co]) := Lib.hid k5
  clear b23 k5 hg1 HB1 HB2 Z5
  have CW0 : Hid (Calls Try.prog 15 #[.agg #[.int .i64 X.kind, .int .i64 X.frm, .int .i64 X.dst, .int .i64 X.view, .int .i64 X.inst, .int .i64 X.len, .bool X.has, .int .i64 X.mem, .int .i64 X.src, .int .i64 X.pos, .int .i64 X.tot, .slice ax.Ad X.data.length ax.cd, .int .i64 X.hop, .int .i64 X.seq, .slice ax.Ah X.hav.length ax.ch, .slice ax.An X.nee.length ax.cn, .int .i64 X.idx, .int .i64 X.ent.s, .int .i64 X.ent.q, .int .i64 X.ent.c.kind, .int .i64 X.ent.c.who, .slice ax.c.Ak X.ent.c.key.length ax.c.ck, .slice ax.c.Av X.ent.c.val.length ax.c.cv, .slice ax.c.Ao X.ent.c.old.length ax.c.co]] w3 (GotIn w3 w3 L)) := Lib.hid (by rw [← F.out.enc]; exact refEncode11 (a := ax) (m := X) F.out.wide HX.out (Below.refl _ _))
  dsimp only [Act.put]
  go_upto_region 5 with (first
    | (refine wpList_load_row rfl 29 (.tmp 13) rfl g1 rfl 29 #[.int .i64 X.kind, .int .i64 X.frm, .int .i64 X.dst, .int .i64 X.view, .int .i64 X.inst, .int .i64 X.len, .bool X.has, .int .i64 X.mem, .int .i64 X.src, .int .i64 X.pos, .int .i64 X.tot, .slice ax.Ad X.data.length ax.cd, .int .i64 X.hop, .int .i64 X.seq, .slice ax.Ah X.hav.length ax.ch, .slice ax.An X.nee.length ax.cn, .int .i64 X.idx, .int .i64 X.ent.s, .int .i64 X.ent.q, .int .i64 X.ent.c.kind, .int .i64 X.ent.c.who, .slice ax.c.Ak X.ent.c.key.length ax.c.ck, .slice ax.c.Av X.ent.c.val.length ax.c.cv, .slice ax.c.Ao X.ent.c.old.length ax.c.co] (0, 0) _ HK2.out Try.underlying29 rfl (by kernel_rfl) ?_)
    | (go_at_call 15; refine CW0.out.mono ?_; rintro e w4 ⟨A4, c4, rfl, ho4, hB4, hb4⟩)
    | fail)
  have HO4 := Lib.hid (Rd.own_ ho4)
  have HCAP4 := Lib.hid (own_cap ho4)
  have HX := Lib.hid (HX.out.below' hb4)
  have HB := Lib.hid (HB.out.trans (hb4.mono HB.out.size))
  have HK1 := Lib.hid (HK1.out.below hb4)
  have HK2 := Lib.hid (HK2.out.below hb4)
  have HM1 := Lib.hid (HM1.out.below' hb4)
  have HL1 := Lib.hid (HL1.out.below hb4).fit
  clear ho4 hB4 hb4 CW0
  have hlen9 : L.length ≤ 90000 := by have := F.out.len; omega
  have hpos : 0 < L.length := by have := F.out.len; omega
  go_upto_region 6 with (first
    | (at_builtin
       refine wpList_append_bytes (W := w4) byteT (.tmp 72) (.tmp 73) rfl (by rfl) rfl (own_empty (Below.refl _ _) 5) rfl (HO4.out.alloc (Nat.le_refl _) _) (by omega) ((Below.refl _ _).alloc (Nat.le_refl _) _) ?_
       intro A6 c6 w5 ho6 hr6 hB6
       clear hr6
       rw [Nat.zero_add, List.nil_append] at ho6
       rw [Nat.zero_add]
       obtain ⟨gb, rfl, hgb, hgb2⟩ := own_addr ho6 hpos
       have HO6 := Lib.hid ho6
       have HB6 := Lib.hid hB6
       clear ho6 hB6)
    | fail)
  obtain ⟨k, hk, hkl⟩ : ∃ k : Nat, (bits .and .i64 at_ 65535).tmod (L.length : Int) = (k : Int) ∧ k < L.length := by
    rw [and_ffff]
    have h1 := Int.emod_nonneg at_ (show (65536 : Int) ≠ 0 by omega)
    rw [Int.tmod_eq_emod_of_nonneg h1]
    have h2 := Int.emod_nonneg (at_ % 65536) (show (L.length : Int) ≠ 0 by omega)
    have h3 := Int.emod_lt_of_pos (at_ % 65536) (show (0 : Int) < (L.length : Int) by omega)
    exact ⟨((at_ % 65536) % (L.length : Int)).toNat, by omega, by omega⟩
  have hl0 : ¬ (L.length : Int) = 0 := by omega
  have hl0b : ((L.length : Int) == 0) = false := by simpa using hl0
  have hki : (k : Int) < (L.length : Int) := by omega
  have hk0 : (0 : Int) ≤ (k : Int) := by omega
  have hlp : (0 : Int) < (L.length : Int) := by omega
  have hcb := own_byte HO6.out hkl
  have hfb := own_frozenS HO6.out k
  have hset := own_set HO6.out k y
  go_upto_region 10 with fail
  have hbs : Below w4.heap.size w4 (w5.setCell ⟨gb, k, none⟩ (.int .u8 (y : Int))) := HB6.out.setCell (p := ⟨gb, k, none⟩) hgb _
  have HR4 := Lib.hid ((HO4.out.below hbs).fit)
  have HU := Lib.hid hset
  have HB := Lib.hid (HB.out.trans (hbs.mono HB.out.size))
  have HX := Lib.hid (HX.out.below' hbs)
  have HK1 := Lib.hid (HK1.out.below hbs)
  have HK2 := Lib.hid (HK2.out.below hbs)
  have HM1 := Lib.hid (HM1.out.below' hbs)
  have HL1 := Lib.hid (HL1.out.below hbs).fit
  clear hcb hfb hset HO6 HB6 HO4
  generalize w5.setCell ⟨gb, k, none⟩ (.int .u8 (y : Int)) = w6 at hbs HR4 HU HB HX HK1 HK2 HM1 HL1 ⊢
  clear hbs
  have HGB : Hid (w4.heap.size ≤ gb) := Lib.hid hgb
  clear hgb hgb2
  go_wp2_with (first
    | (refine wpList_load_row rfl 29 (.tmp 6) rfl g rfl 29 #[.int .i64 m0.kind, .int .i64 m0.frm, .int .i64 m0.dst, .int .i64 m0.view, .int .i64 m0.inst, .int .i64 m0.len, .bool m0.has, .int .i64 m0.mem, .int .i64 m0.src, .int .i64 m0.pos, .int .i64 m0.tot, .slice g0.Ad m0.data.length g0.cd, .int .i64 m0.hop, .int .i64 m0.seq, .slice g0.Ah m0.hav.length g0.ch, .slice g0.An m0.nee.length g0.cn, .int .i64 m0.idx, .int .i64 m0.ent.s, .int .i64 m0.ent.q, .int .i64 m0.ent.c.kind, .int .i64 m0.ent.c.who, .slice g0.c.Ak m0.ent.c.key.length g0.c.ck, .slice g0.c.Av m0.ent.c.val.length g0.c.cv, .slice g0.c.Ao m0.ent.c.old.length g0.c.co] (0, 0) _ HK1.out Try.underlying29 rfl (by kernel_rfl) ?_)
    | (refine wpList_load_row rfl 29 (.tmp 13) rfl g1 rfl 29 #[.int .i64 X.kind, .int .i64 X.frm, .int .i64 X.dst, .int .i64 X.view, .int .i64 X.inst, .int .i64 X.len, .bool X.has, .int .i64 X.mem, .int .i64 X.src, .int .i64 X.pos, .int .i64 X.tot, .slice ax.Ad X.data.length ax.cd, .int .i64 X.hop, .int .i64 X.seq, .slice ax.Ah X.hav.length ax.ch, .slice ax.An X.nee.length ax.cn, .int .i64 X.idx, .int .i64 X.ent.s, .int .i64 X.ent.q, .int .i64 X.ent.c.kind, .int .i64 X.ent.c.who, .slice ax.c.Ak X.ent.c.key.length ax.c.ck, .slice ax.c.Av X.ent.c.val.length ax.c.cv, .slice ax.c.Ao X.ent.c.old.length ax.c.co] (0, 0) _ HK2.out Try.underlying29 rfl (by kernel_rfl) ?_)
    | (refine wpList_build2 (g0 := g0) (ax := ax) (m0 := m0) (X := X) rfl rfl rfl rfl ?_
       intro b wt hBt hTt
       have HT := Lib.hid hTt
       have HBT := Lib.hid hBt
       clear hBt hTt)
    | fail)
  have hbs := HBT.out
  have HR4 := Lib.hid ((HR4.out.below hbs).fit)
  have HU := Lib.hid (ownsRow_below HU.out hbs)
  have HB := Lib.hid (HB.out.trans (hbs.mono HB.out.size))
  have HX := Lib.hid (HX.out.below' hbs)
  have HK2 := Lib.hid (HK2.out.below hbs)
  have HM1 := Lib.hid (HM1.out.below' hbs)
  have HL1 := Lib.hid (HL1.out.below hbs).fit
  clear hbs HBT HK1
  go_loopw [91] (fun s91 wr => ∃ (j : Nat), j ≤ 2 ∧ s91 = .int .i64 (j : Int) ∧ Hid (Below wt.heap.size wt wr)) (fun s91 _ => 2 - (intOf s91).toNat)
  case atStart => exact ⟨0, by omega, rfl, Lib.hid (Below.refl _ _)⟩
  case round =>
    obtain ⟨j, hj, rfl, HBL⟩ := hrel
    rename World => wr
    by_cases hj2 : j < 2
    · have hji : (j : Int) < 2 := by omega
      have hj0 : (0 : Int) ≤ (j : Int) := by omega
      have hwj : IntKind.i64.wrap ((j : Int) + 1) = (j : Int) + 1 := IntWalk.i64_in _ (by omega)
      obtain ⟨aM, M, hrow, hrd, hwd⟩ := rowM (HT.out.below HBL.out) (HM1.out.below' HBL.out) (HX.out.below' HBL.out) HWD0.out F.out.wide hj2
      have HQ := Lib.hid (show wr.rangeAt b (j * 24) [.int .i64 M.kind, .int .i64 M.frm, .int .i64 M.dst, .int .i64 M.view, .int .i64 M.inst, .int .i64 M.len, .bool M.has, .int .i64 M.mem, .int .i64 M.src, .int .i64 M.pos, .int .i64 M.tot, .slice aM.Ad M.data.length aM.cd, .int .i64 M.hop, .int .i64 M.seq, .slice aM.Ah M.hav.length aM.ch, .slice aM.An M.nee.length aM.cn, .int .i64 M.idx, .int .i64 M.ent.s, .int .i64 M.ent.q, .int .i64 M.ent.c.kind, .int .i64 M.ent.c.who, .slice aM.c.Ak M.ent.c.key.length aM.c.ck, .slice aM.c.Av M.ent.c.val.length aM.c.cv, .slice aM.c.Ao M.ent.c.old.length aM.c.co] from fun t v h => hrow t v (by rw [← Array.getElem?_toList]; exact h))
      have HRM := Lib.hid hrd
      have HWM := Lib.hid hwd
      clear hrow hrd hwd
      go_upto_region 13 with (first
        | (refine wpList_load_mid rfl 29 (.tmp 93) rfl b (j * 24) rfl [.int .i64 M.kind, .int .i64 M.frm, .int .i64 M.dst, .int .i64 M.view, .int .i64 M.inst, .int .i64 M.len, .bool M.has, .int .i64 M.mem, .int .i64 M.src, .int .i64 M.pos, .int .i64 M.tot, .slice aM.Ad M.data.length aM.cd, .int .i64 M.hop, .int .i64 M.seq, .slice aM.Ah M.hav.length aM.ch, .slice aM.An M.nee.length aM.cn, .int .i64 M.idx, .int .i64 M.ent.s, .int .i64 M.ent.q, .int .i64 M.ent.c.kind, .int .i64 M.ent.c.who, .slice aM.c.Ak M.ent.c.key.length aM.c.ck, .slice aM.c.Av M.ent.c.val.length aM.c.cv, .slice aM.c.Ao M.ent.c.old.length aM.c.co] _ HQ.out rfl rfl rfl ?_)
        | (refine wpList_store_row rfl 29 (.tmp 18) (.tmp 94) rfl wr.heap.size #[.int .i64 M.kind, .int .i64 M.frm, .int .i64 M.dst, .int .i64 M.view, .int .i64 M.inst, .int .i64 M.len, .bool M.has, .int .i64 M.mem, .int .i64 M.src, .int .i64 M.pos, .int .i64 M.tot, .slice aM.Ad M.data.length aM.cd, .int .i64 M.hop, .int .i64 M.seq, .slice aM.Ah M.hav.length aM.ch, .slice aM.An M.nee.length aM.cn, .int .i64 M.idx, .int .i64 M.ent.s, .int .i64 M.ent.q, .int .i64 M.ent.c.kind, .int .i64 M.ent.c.who, .slice aM.c.Ak M.ent.c.key.length aM.c.ck, .slice aM.c.Av M.ent.c.val.length aM.c.cv, .slice aM.c.Ao M.ent.c.old.length aM.c.co] rfl rfl 29 #[.int .i64 0, .int .i64 0, .int .i64 0, .int .i64 0, .int .i64 0, .int .i64 0, .bool false, .int .i64 0, .int .i64 0, .int .i64 0, .int .i64 0, .slice none 0 0, .int .i64 0, .int .i64 0, .slice none 0 0, .slice none 0 0, .int .i64 0, .int .i64 0, .int .i64 0, .int .i64 0, .int .i64 0, .slice none 0 0, .slice none 0 0, .slice none 0 0] (Blk.new wr 29 #[.int .i64 0, .int .i64 0, .int .i64 0, .int .i64 0, .int .i64 0, .int .i64 0, .bool false, .int .i64 0, .int .i64 0, .int .i64 0, .int .i64 0, .slice none 0 0, .int .i64 0, .int .i64 0, .slice none 0 0, .slice none 0 0, .int .i64 0, .int .i64 0, .int .i64 0, .int .i64 0, .int .i64 0, .slice none 0 0, .slice none 0 0, .slice none 0 0]) (by kernel_rfl) rfl (by kernel_rfl) ?_)
        | fail)
      obtain ⟨gy, wy, hgE, hwE, hbE, hkE⟩ : ∃ gy wy, wr.heap.size = gy ∧ (wr.alloc (.cells #[.int .i64 0, .int .i64 0, .int .i64 0, .int .i64 0, .int .i64 0, .int .i64 0, .bool false, .int .i64 0, .int .i64 0, .int .i64 0, .int .i64 0, .slice none 0 0, .int .i64 0, .int .i64 0, .slice none 0 0, .slice none 0 0, .int .i64 0, .int .i64 0, .int .i64 0, .int .i64 0, .int .i64 0, .slice none 0 0, .slice none 0 0, .slice none 0 0] 29)).setRow gy #[.int .i64 M.kind, .int .i64 M.frm, .int .i64 M.dst, .int .i64 M.view, .int .i64 M.inst, .int .i64 M.len, .bool M.has, .int .i64 M.mem, .int .i64 M.src, .int .i64 M.pos, .int .i64 M.tot, .slice aM.Ad M.data.length aM.cd, .int .i64 M.hop, .int .i64 M.seq, .slice aM.Ah M.hav.length aM.ch, .slice aM.An M.nee.length aM.cn, .int .i64 M.idx, .int .i64 M.ent.s, .int .i64 M.ent.q, .int .i64 M.ent.c.kind, .int .i64 M.ent.c.who, .slice aM.c.Ak M.ent.c.key.length aM.c.ck, .slice aM.c.Av M.ent.c.val.length aM.c.cv, .slice aM.c.Ao M.ent.c.old.length aM.c.co] = wy ∧ Below wr.heap.size wr wy ∧ Blk wy gy 29 #[.int .i64 M.kind, .int .i64 M.frm, .int .i64 M.dst, .int .i64 M.view, .int .i64 M.inst, .int .i64 M.len, .bool M.has, .int .i64 M.mem, .int .i64 M.src, .int .i64 M.pos, .int .i64 M.tot, .slice aM.Ad M.data.length aM.cd, .int .i64 M.hop, .int .i64 M.seq, .slice aM.Ah M.hav.length aM.ch, .slice aM.An M.nee.length aM.cn, .int .i64 M.idx, .int .i64 M.ent.s, .int .i64 M.ent.q, .int .i64 M.ent.c.kind, .int .i64 M.ent.c.who, .slice aM.c.Ak M.ent.c.key.length aM.c.ck, .slice aM.c.Av M.ent.c.val.length aM.c.cv, .slice aM.c.Ao M.ent.c.old.length aM.c.co] := ⟨_, _, rfl, rfl, below_setRow ((Below.refl _ _).alloc (Nat.le_refl _) _) (Nat.le_refl _) _, (Blk.new _ _ _).row _⟩
      rw [hgE, hwE]
      have HKY : Hid (Blk wy gy 29 (msgC aM M)) := Lib.hid hkE
      have hby : Below wt.heap.size wt wy := HBL.out.trans (hbE.mono HBL.out.size)
      have HKX : Hid (Blk wy g1 29 (msgC ax X)) := Lib.hid (HK2.out.below hby)
      have HRY := Lib.hid (HRM.out.below' hbE)
      have HXY := Lib.hid (HX.out.below' hby)
      have HBY := Lib.hid hby
      clear hgE hwE hbE hkE hby HQ HRM
      obtain ⟨LM, hLM⟩ : ∃ q, M.enc = q := ⟨_, rfl⟩
      obtain ⟨D, hD⟩ : ∃ q, decide (M = X) = q := ⟨_, rfl⟩
      have CE1 : Hid (∀ wx, Below wy.heap.size wy wx → Calls Try.prog 16 #[msgV aM M] wx (GotIn wx wx LM)) := Lib.hid (fun wx hb => encode11.is (W := wx) hLM HWM.out (HRY.out.below' hb) (Below.refl _ _))
      have CE2 : Hid (∀ wx, Below wy.heap.size wy wx → Calls Try.prog 15 #[msgV aM M] wx (GotIn wx wx LM)) := Lib.hid (fun wx hb => by rw [← hLM]; exact refEncode11 (W := wx) (a := aM) (m := M) HWM.out (HRY.out.below' hb) (Below.refl _ _))
      have CS1 : Hid (∀ wx, Below wy.heap.size wy wx → Calls Try.prog 17 #[msgV aM M, msgV ax X] wx fun e w' => e = .returned (.bool D) ∧ Below wx.heap.size wx w') := Lib.hid (fun wx hb => by rw [← hD]; exact same11 wx HWM.out F.out.wide (HRY.out.below' hb) (HXY.out.below' hb))
      have CS2 : Hid (∀ wx, Below wy.heap.size wy wx → Calls Try.prog 18 #[msgV aM M, msgV ax X] wx fun e w' => e = .returned (.bool D) ∧ Below wx.heap.size wx w') := Lib.hid (fun wx hb => by rw [← hD]; exact refSame11 wx HWM.out F.out.wide (HRY.out.below' hb) (HXY.out.below' hb))
      have HQ1 : Hid ((strB LM == strB LM) = true) := Lib.hid (strB_self _)
      have HQ2 : Hid (((strB LM).toList == (strB LM).toList) = true) := Lib.hid (by simp)
      clear hLM hD HRY HXY HWM
      try dsimp only [Act.put]
      go_cut [110] from 95 to 109 (fun s110 wx => s110 = .bool false ∧ Hid (Below wy.heap.size wy wx))
      case first =>
        refine region_invG (U0 := fun i => ([u95, u96, u97, u98, u99, u100, u101, u102, u103, u104, u105, u106, u107, u108, u109, u110] : List Value).getD (i - 95) undef) (frameR13 g1 gy aM ax M X LM D _ _ _ _ _ _ _ _ _ _ _ _ _ _ _ _ _ _ _ _ _ _ _ _ _ _ _ _ _ _ _ _ _ _ _ _ _ _ _ _ _ _ _ _ _ _ _ _ _ _ _ _ _ _ _ _ _ _ _ _ _ _ _ _ _ _ _ _ _ _ _ _ _ _ _ _ _ _ _ _ _ _ _ _ _ _ _ _ _ _ _ _ _ _ _ _ _ _ _ _ _ _ _ _ _ _ _ _ _ _ _ _ _ _ _ _ _ _ _ _ _ _ _ _ _ _ _ _ _ _ _ _ _) dstR13 depsR13 (fun _ => true) (VF (kindsR13 g1 gy aM ax M X LM D)) (FrR13 g1 gy aM ax M X LM D) ?hm ?hb ?inj ?dst ?deps ?want ?put ?ev ?fr (VF.ext _) (Below.refl _ _) ?hok ?done
        case hok =>
          refine all_ops (AllFrom.cons ?s0 (AllFrom.cons ?s1 (AllFrom.cons ?s2 (AllFrom.cons ?s3 (AllFrom.cons ?s4 (AllFrom.cons ?s5 (AllFrom.cons ?s6 (AllFrom.cons ?s7 (AllFrom.cons ?s8 (AllFrom.cons ?s9 (AllFrom.cons ?s10 (AllFrom.cons ?s11 (AllFrom.cons ?s12 (AllFrom.cons ?s13 (AllFrom.cons ?s14 (AllFrom.cons ?s15 AllFrom.nil))))))))))))))))
          case s0 =>
            intro a w1 hF hB hdep K hK
            rw [if_pos rfl]
            refine wp_load_row 29 (.tmp 18) rfl gy hF.2 29 (msgC aM M) (0, 0) _ (HKY.out.below hB) Try.underlying29 rfl (by kernel_rfl) ?_
            exact hK.out _ _ (Ext.refl _) hB rfl
          case s1 =>
            intro a w1 hF hB hdep K hK
            rw [if_pos rfl]
            have e0 : a.tmps[95]?.getD undef = msgV aM M := ev_tmpF (show a.eval (.tmp 95) = msgV aM M from hdep 0 (by decide))
            go_simp
            go_at_call 16
            refine (CE1.out _ hB).mono ?_
            rintro e w2 ⟨A9, c9, rfl, ho, hB9, hb⟩
            go_simp
            exact hK.out _ _ (Ext.of_below hb) (hB.trans (hb.mono hB.size)) ⟨A9, c9, rfl, Rd.own_ ho, (own_cap ho).1⟩
          case s2 =>
            intro a w1 hF hB hdep K hK
            rw [if_pos rfl]
            obtain ⟨A9, c9, e1, hr1, hc1⟩ : ∃ A9 c9, a.eval (.tmp 96) = .slice A9 LM.length c9 ∧ Rd w1 w1.heap.size A9 LM.length (bv LM) ∧ LM.length ≤ c9 := hdep 1 (by decide)
            have e1 := ev_tmpF e1
            have q := str_of (c := c9) hr1
            go_simp
            exact hK.out _ _ (Ext.refl _) hB rfl
          case s3 =>
            intro a w1 hF hB hdep K hK
            rw [if_pos rfl]
            refine wp_load_row 29 (.tmp 18) rfl gy hF.2 29 (msgC aM M) (0, 0) _ (HKY.out.below hB) Try.underlying29 rfl (by kernel_rfl) ?_
            exact hK.out _ _ (Ext.refl _) hB rfl
          case s4 =>
            intro a w1 hF hB hdep K hK
            rw [if_pos rfl]
            have e3 : a.tmps[98]?.getD undef = msgV aM M := ev_tmpF (show a.eval (.tmp 98) = msgV aM M from hdep 3 (by decide))
            go_simp
            go_at_call 15
            refine (CE2.out _ hB).mono ?_
            rintro e w2 ⟨A9, c9, rfl, ho, hB9, hb⟩
            go_simp
            exact hK.out _ _ (Ext.of_below hb) (hB.trans (hb.mono hB.size)) ⟨A9, c9, rfl, Rd.own_ ho, (own_cap ho).1⟩
          case s5 =>
            intro a w1 hF hB hdep K hK
            rw [if_pos rfl]
            obtain ⟨A9, c9, e4, hr4, hc4⟩ : ∃ A9 c9, a.eval (.tmp 99) = .slice A9 LM.length c9 ∧ Rd w1 w1.heap.size A9 LM.length (bv LM) ∧ LM.length ≤ c9 := hdep 4 (by decide)
            have e4 := ev_tmpF e4
            have q := str_of (c := c9) hr4
            go_simp
            exact hK.out _ _ (Ext.refl _) hB rfl
          case s6 =>
            intro a w1 hF hB hdep K hK
            rw [if_pos rfl]
            have e2 : a.tmps[97]?.getD undef = .string (strB LM) := ev_tmpF (show a.eval (.tmp 97) = .string (strB LM) from hdep 2 (by decide))
            have e5 : a.tmps[100]?.getD undef = .string (strB LM) := ev_tmpF (show a.eval (.tmp 100) = .string (strB LM) from hdep 5 (by decide))
            have q1 := HQ1.out
            have q2 := HQ2.out
            go_simp
            exact hK.out _ _ (Ext.refl _) hB rfl
          case s7 =>
            intro a w1 hF hB hdep K hK
            rw [if_pos rfl]
            have e6 : a.tmps[101]?.getD undef = .bool false := ev_tmpF (show a.eval (.tmp 101) = .bool false from hdep 6 (by decide))
            go_simp
            exact hK.out _ _ (Ext.refl _) hB rfl
          case s8 =>
            intro a w1 hF hB hdep K hK
            rw [if_pos rfl]
            refine wp_load_row 29 (.tmp 18) rfl gy hF.2 29 (msgC aM M) (0, 0) _ (HKY.out.below hB) Try.underlying29 rfl (by kernel_rfl) ?_
            exact hK.out _ _ (Ext.refl _) hB rfl
          case s9 =>
            intro a w1 hF hB hdep K hK
            rw [if_pos rfl]
            refine wp_load_row 29 (.tmp 13) rfl g1 hF.1 29 (msgC ax X) (0, 0) _ (HKX.out.below hB) Try.underlying29 rfl (by kernel_rfl) ?_
            exact hK.out _ _ (Ext.refl _) hB rfl
          case s10 =>
            intro a w1 hF hB hdep K hK
            rw [if_pos rfl]
            have e8 : a.tmps[103]?.getD undef = msgV aM M := ev_tmpF (show a.eval (.tmp 103) = msgV aM M from hdep 8 (by decide))
            have e9 : a.tmps[104]?.getD undef = msgV ax X := ev_tmpF (show a.eval (.tmp 104) = msgV ax X from hdep 9 (by decide))
            go_simp
            go_at_call 17
            refine (CS1.out _ hB).mono ?_
            rintro e w2 ⟨rfl, hb⟩
            go_simp
            exact hK.out _ _ (Ext.of_below hb) (hB.trans (hb.mono hB.size)) rfl
          case s11 =>
            intro a w1 hF hB hdep K hK
            rw [if_pos rfl]
            refine wp_load_row 29 (.tmp 18) rfl gy hF.2 29 (msgC aM M) (0, 0) _ (HKY.out.below hB) Try.underlying29 rfl (by kernel_rfl) ?_
            exact hK.out _ _ (Ext.refl _) hB rfl
          case s12 =>
            intro a w1 hF hB hdep K hK
            rw [if_pos rfl]
            refine wp_load_row 29 (.tmp 13) rfl g1 hF.1 29 (msgC ax X) (0, 0) _ (HKX.out.below hB) Try.underlying29 rfl (by kernel_rfl) ?_
            exact hK.out _ _ (Ext.refl _) hB rfl
          case s13 =>
            intro a w1 hF hB hdep K hK
            rw [if_pos rfl]
            have e11 : a.tmps[106]?.getD undef = msgV aM M := ev_tmpF (show a.eval (.tmp 106) = msgV aM M from hdep 11 (by decide))
            have e12 : a.tmps[107]?.getD undef = msgV ax X := ev_tmpF (show a.eval (.tmp 107) = msgV ax X from hdep 12 (by decide))
            go_simp
            go_at_call 18
            refine (CS2.out _ hB).mono ?_
            rintro e w2 ⟨rfl, hb⟩
            go_simp
            exact hK.out _ _ (Ext.of_below hb) (hB.trans (hb.mono hB.size)) rfl
          case s14 =>
            intro a w1 hF hB hdep K hK
            rw [if_pos rfl]
            have e10 : a.tmps[105]?.getD undef = .bool D := ev_tmpF (show a.eval (.tmp 105) = .bool D from hdep 10 (by decide))
            have e13 : a.tmps[108]?.getD undef = .bool D := ev_tmpF (show a.eval (.tmp 108) = .bool D from hdep 13 (by decide))
            go_simp
            have q3 : (D != D) = false := by cases D <;> rfl
            first | (rw [q3]; exact hK.out _ _ (Ext.refl _) hB rfl) | (simp only [q3]; exact hK.out _ _ (Ext.refl _) hB rfl) | (cases D <;> exact hK.out _ _ (Ext.refl _) hB rfl)
          case s15 =>
            intro a w1 hF hB hdep K hK
            rw [if_pos rfl]
            have e7 : a.tmps[102]?.getD undef = .bool false := ev_tmpF (show a.eval (.tmp 102) = .bool false from hdep 7 (by decide))
            have e14 : a.tmps[109]?.getD undef = .bool false := ev_tmpF (show a.eval (.tmp 109) = .bool false from hdep 14 (by decide))
            go_simp
            exact hK.out _ _ (Ext.refl _) hB rfl
        case hm => kernel_rfl
        case hb => kernel_rfl
        case inj =>
          intro i j hi hj h
          have h1 : ((List.range 16).all fun i => (List.range 16).all fun j => !(dstR13 i == dstR13 j) || (i == j)) = true := by kernel_rfl
          have h2 := List.all_eq_true.1 (List.all_eq_true.1 h1 i (List.mem_range.2 hi)) j (List.mem_range.2 hj)
          simpa [h] using h2
        case dst => exact all_ops (AllFrom.cons rfl (AllFrom.cons rfl (AllFrom.cons rfl (AllFrom.cons rfl (AllFrom.cons rfl (AllFrom.cons rfl (AllFrom.cons rfl (AllFrom.cons rfl (AllFrom.cons rfl (AllFrom.cons rfl (AllFrom.cons rfl (AllFrom.cons rfl (AllFrom.cons rfl (AllFrom.cons rfl (AllFrom.cons rfl (AllFrom.cons rfl AllFrom.nil))))))))))))))))
        case deps =>
          intro i hi j hj
          refine deps_ofF (deps := depsR13) ?_ i hi j hj
          kernel_rfl
        case want => exact all_ops (AllFrom.cons (fun U w hd => rfl) (AllFrom.cons (fun U w hd => rfl) (AllFrom.cons (fun U w hd => rfl) (AllFrom.cons (fun U w hd => rfl) (AllFrom.cons (fun U w hd => rfl) (AllFrom.cons (fun U w hd => rfl) (AllFrom.cons (fun U w hd => rfl) (AllFrom.cons (fun U w hd => rfl) (AllFrom.cons (fun U w hd => wanted_ofF rfl (yielded_ofF (s := 102) (b := false) rfl ((show _ = some (U 102) from by kernel_rfl).trans (congrArg some (show U 102 = .bool false from hd 7 (by decide))))) rfl) (AllFrom.cons (fun U w hd => wanted_ofF rfl (yielded_ofF (s := 102) (b := false) rfl ((show _ = some (U 102) from by kernel_rfl).trans (congrArg some (show U 102 = .bool false from hd 7 (by decide))))) rfl) (AllFrom.cons (fun U w hd => wanted_ofF rfl (yielded_ofF (s := 102) (b := false) rfl ((show _ = some (U 102) from by kernel_rfl).trans (congrArg some (show U 102 = .bool false from hd 7 (by decide))))) rfl) (AllFrom.cons (fun U w hd => wanted_ofF rfl (yielded_ofF (s := 102) (b := false) rfl ((show _ = some (U 102) from by kernel_rfl).trans (congrArg some (show U 102 = .bool false from hd 7 (by decide))))) rfl) (AllFrom.cons (fun U w hd => wanted_ofF rfl (yielded_ofF (s := 102) (b := false) rfl ((show _ = some (U 102) from by kernel_rfl).trans (congrArg some (show U 102 = .bool false from hd 7 (by decide))))) rfl) (AllFrom.cons (fun U w hd => wanted_ofF rfl (yielded_ofF (s := 102) (b := false) rfl ((show _ = some (U 102) from by kernel_rfl).trans (congrArg some (show U 102 = .bool false from hd 7 (by decide))))) rfl) (AllFrom.cons (fun U w hd => wanted_ofF rfl (yielded_ofF (s := 102) (b := false) rfl ((show _ = some (U 102) from by kernel_rfl).trans (congrArg some (show U 102 = .bool false from hd 7 (by decide))))) rfl) (AllFrom.cons (fun U w hd => rfl) AllFrom.nil))))))))))))))))
        case put => exact all_ops (AllFrom.cons (fun _ _ => by kernel_rfl) (AllFrom.cons (fun _ _ => by kernel_rfl) (AllFrom.cons (fun _ _ => by kernel_rfl) (AllFrom.cons (fun _ _ => by kernel_rfl) (AllFrom.cons (fun _ _ => by kernel_rfl) (AllFrom.cons (fun _ _ => by kernel_rfl) (AllFrom.cons (fun _ _ => by kernel_rfl) (AllFrom.cons (fun _ _ => by kernel_rfl) (AllFrom.cons (fun _ _ => by kernel_rfl) (AllFrom.cons (fun _ _ => by kernel_rfl) (AllFrom.cons (fun _ _ => by kernel_rfl) (AllFrom.cons (fun _ _ => by kernel_rfl) (AllFrom.cons (fun _ _ => by kernel_rfl) (AllFrom.cons (fun _ _ => by kernel_rfl) (AllFrom.cons (fun _ _ => by kernel_rfl) (AllFrom.cons (fun _ _ => by kernel_rfl) AllFrom.nil))))))))))))))))
        case ev => exact all_ops (AllFrom.cons (fun _ => by kernel_rfl) (AllFrom.cons (fun _ => by kernel_rfl) (AllFrom.cons (fun _ => by kernel_rfl) (AllFrom.cons (fun _ => by kernel_rfl) (AllFrom.cons (fun _ => by kernel_rfl) (AllFrom.cons (fun _ => by kernel_rfl) (AllFrom.cons (fun _ => by kernel_rfl) (AllFrom.cons (fun _ => by kernel_rfl) (AllFrom.cons (fun _ => by kernel_rfl) (AllFrom.cons (fun _ => by kernel_rfl) (AllFrom.cons (fun _ => by kernel_rfl) (AllFrom.cons (fun _ => by kernel_rfl) (AllFrom.cons (fun _ => by kernel_rfl) (AllFrom.cons (fun _ => by kernel_rfl) (AllFrom.cons (fun _ => by kernel_rfl) (AllFrom.cons (fun _ => by kernel_rfl) AllFrom.nil))))))))))))))))
        case fr => exact fun U => ⟨by kernel_rfl, by kernel_rfl⟩
        case done =>
          intro U w' hB hV
          have e1 : U 110 = .bool false := hV 15 (by decide)
          unfold frameR13
          rw [e1]
          have HB9 := Lib.hid hB
          clear hV e1 hB
          go_wp2_with fail
          go_meet
          exact ⟨rfl, HB9⟩
      case rest =>
        obtain ⟨rfl, HB9⟩ := hcut
        rename World => w9
        clear CE1 CE2 CS1 CS2 HQ1 HQ2 HKY HKX
        go_wp2_with fail
        go_roundw
        case rel => exact ⟨j + 1, by omega, by go_num, Lib.hid (HBY.out.trans (HB9.out.mono HBY.out.size))⟩
        case measure => simp only [intOf]; omega
    · have hji : ¬ (j : Int) < 2 := by omega
      have hbs := HBL.out
      have HR4 := Lib.hid ((HR4.out.below hbs).fit)
      have HU := Lib.hid (ownsRow_below HU.out hbs)
      have HB := Lib.hid (HB.out.trans (hbs.mono HB.out.size))
      have HL1 := Lib.hid (HL1.out.below hbs).fit
      clear hbs HBL HX HK2 HM1 HT HM hj2 hj
      obtain ⟨w7, hw7⟩ : ∃ q, wr = q := ⟨_, rfl⟩
      rw [hw7] at HR4 HU HB HL1 ⊢
      clear hw7
      have hcap4 := HCAP4.out
      obtain ⟨i9, hi1, hi2, hi3, hi4⟩ := info_parts byteT.info
      have hsl := run_slice_to (P := Try.prog) (t := 22) byteT.under hi1 A4 L.length c4 k (by omega)
      clear hi1 hi2 hi3 hi4 HCAP4
      obtain ⟨wc, hwc⟩ : ∃ x, w7 = x := ⟨_, rfl⟩
      rw [hwc] at HR4 HU HB HL1 ⊢
      clear hwc
      go_upto_region 16 with fail
      go_cut [124, 125, 126] from 112 to 126 (fun s124 s125 s126 wx => ∃ (gx : Nat) (A7 : Option Addr) (c7 : Nat), s124 = .slice (some ⟨gx, 0, none⟩) 5 5 ∧ s125 = .int .i64 5 ∧ s126 = .int .i64 0 ∧ Hid (Blk wx gx 22 #[.slice A l.length cap, .slice A4 L.length c4, .slice (some ⟨gb, 0, none⟩) L.length c6, .slice A4 k c4, .slice A7 (L.length + 1) c7]) ∧ Hid (Rd wx wx.heap.size A7 (L.length + 1) (bv (L ++ [y]))) ∧ Hid (L.length + 1 ≤ c7 ∧ c7 ≤ maxLen) ∧ Hid (Below wc.heap.size wc wx))
      case first =>
        have hS0 : Below wc.heap.size wc wc.drew := (Below.refl _ _).drew
        refine wp_region_held_drew (S := fun w' => Below wc.heap.size wc w') (by kernel_rfl) hS0 (fun _ => ?_)
        have hS := Lib.hid hS0
        clear hS0
        generalize wc.drew = vd at hS ⊢
        refine wpAnyH_take (i := 0) (v := .slice A l.length cap) rfl (by kernel_rfl) (by kernel_rfl) (by kernel_rfl) (fun _ _ _ h => h) (Or.inl ⟨by kernel_rfl, fun w _ => by go_simp⟩) hS.out ?_
        refine wpAnyH_take (i := 1) (v := .slice A4 L.length c4) rfl (by kernel_rfl) (by kernel_rfl) (by kernel_rfl) (fun _ _ _ h => h) (Or.inl ⟨by kernel_rfl, fun w _ => by go_simp⟩) hS.out ?_
        refine wpAnyH_take (i := 2) (v := .slice (some ⟨gb, 0, none⟩) L.length c6) rfl (by kernel_rfl) (by kernel_rfl) (by kernel_rfl) (fun _ _ _ h => h) (Or.inl ⟨by kernel_rfl, fun w _ => by go_simp⟩) hS.out ?_
        refine wpAnyH_take (i := 3) (v := .slice A4 L.length c4) rfl (by kernel_rfl) (by kernel_rfl) (by kernel_rfl) (fun _ _ _ h => h) (Or.inl ⟨by kernel_rfl, fun w _ => by go_simp⟩) hS.out ?_
        refine wpAnyH_take (i := 4) (v := .int .i64 (k : Int)) rfl (by kernel_rfl) (by kernel_rfl) (by kernel_rfl) (fun _ _ _ h => h) (Or.inl ⟨by kernel_rfl, fun w _ => by go_simp⟩) hS.out ?_
        refine wpAnyH_take (i := 5) (v := .slice A4 k c4) rfl (by kernel_rfl) (by kernel_rfl) (by kernel_rfl) (fun _ _ _ h => h) (Or.inl ⟨by kernel_rfl, fun w _ => by go_simp⟩) hS.out ?_
        refine wpAnyH_take (i := 7) (v := .slice A4 L.length c4) rfl (by kernel_rfl) (by kernel_rfl) (by kernel_rfl) (fun _ _ _ h => h) (Or.inl ⟨by kernel_rfl, fun w _ => by go_simp⟩) hS.out ?_
        refine wpAnyH_take (i := 9) (v := .int .u8 (y : Int)) rfl (by kernel_rfl) (by kernel_rfl) (by kernel_rfl) (fun _ _ _ h => h) (Or.inl ⟨by kernel_rfl, fun w _ => by go_simp⟩) hS.out ?_
        refine wpAnyH_take (i := 14) (v := .int .i64 0) rfl (by kernel_rfl) (by kernel_rfl) (by kernel_rfl) (fun _ _ _ h => h) (Or.inl ⟨by kernel_rfl, fun w _ => by go_simp⟩) hS.out ?_
        refine wpAnyH_ready (rs := [6, 10]) (by kernel_rfl) (by simp) ?_
        refine AllReadyH.cons rfl (fun K hK => ?_) (AllReadyH.cons rfl (fun K hK => ?_) AllReadyH.nil)
        · go_simp
          refine hK.out _ _ (hS.out.alloc hS.out.size _) (fun _ => ?_)
          clear hK K
          obtain ⟨h0, hh0⟩ : ∃ x, vd.heap.size = x := ⟨_, rfl⟩
          have hown0 : (vd.alloc (.cells #[] 5)).ownsRow wc.heap.size 5 1 (.slice (some ⟨h0, 0, none⟩) 0 0) 0 [] := by rw [← hh0]; exact own_empty (W := wc) hS.out 5
          have hb0 : Below vd.heap.size vd (vd.alloc (.cells #[] 5)) := (Below.refl _ _).alloc (Nat.le_refl _) _
          have hS := Lib.hid (hS.out.trans (hb0.mono hS.out.size))
          rw [hh0]
          clear hh0
          generalize vd.alloc (.cells #[] 5) = v1 at hown0 hb0 hS ⊢
          clear hb0
          refine wpAnyH_ready (rs := [8, 10]) (by kernel_rfl) (by simp) ?_
          refine AllReadyH.cons rfl (fun K hK => ?_) (AllReadyH.cons rfl (fun K hK => ?_) AllReadyH.nil)
          · refine step_append_BN (W := wc) (c' := c4) cellB (.tmp 118) (.tmp 119) rfl rfl (by kernel_rfl) hown0 (by kernel_rfl) (HR4.out.below hS.out) Rd.oneCell (N := L.length) (by omega) (by omega) (by omega) hS.out ?_
            intro B4 e4 v2 hown1 hBn hgn
            have hS := Lib.hid hBn
            refine hK.out _ _ hS.out (fun _ => ?_)
            clear hK K hown0 hBn hgn
            refine wpAnyH_ready (rs := [10]) (by kernel_rfl) (by simp) ?_
            refine AllReadyH.cons rfl (fun K hK => ?_) AllReadyH.nil
            go_simp
            refine hK.out _ _ (hS.out.alloc hS.out.size _) (fun _ => ?_)
            clear hK K
            obtain ⟨h1, hh1⟩ : ∃ x, v2.heap.size = x := ⟨_, rfl⟩
            have hent := (Rd.oneAt v2 (.int .u8 (y : Int)) 5 hh1).fit
            have hb0 : Below v2.heap.size v2 (v2.alloc (.cells #[.int .u8 (y : Int)] 5)) := (Below.refl _ _).alloc (Nat.le_refl _) _
            have hS := Lib.hid (hS.out.trans (hb0.mono hS.out.size))
            have hown1 := ownsRow_below hown1 hb0
            rw [hh1]
            clear hh1
            generalize v2.alloc (.cells #[.int .u8 (y : Int)] 5) = v3 at hent hb0 hS hown1 ⊢
            clear hb0
            refine wpAnyH_ready (rs := [11]) (by kernel_rfl) (by simp) ?_
            refine AllReadyH.cons rfl (fun K hK => ?_) AllReadyH.nil
            refine step_append_BN (W := wc) (c' := 1) cellB (.tmp 120) (.tmp 122) rfl rfl (by kernel_rfl) hown1 (by kernel_rfl) hent (by intro u hu; simp at hu; subst hu; rfl) (N := L.length + 1) rfl (by omega) (by omega) hS.out ?_
            intro A7 c7 v11 hown2 hBn hgn
            have hS := Lib.hid hBn
            refine hK.out _ _ hS.out (fun _ => ?_)
            clear hK K hown1 hBn hgn hent
            refine wpAnyH_ready (rs := [12]) (by kernel_rfl) (by simp) ?_
            refine AllReadyH.cons rfl (fun K hK => ?_) AllReadyH.nil
            go_simp
            refine hK.out _ _ (hS.out.alloc hS.out.size _) (fun _ => ?_)
            clear hK K
            obtain ⟨gx, hgx⟩ : ∃ x, v11.heap.size = x := ⟨_, rfl⟩
            have hbx := Blk.newAt v11 22 #[.slice A l.length cap, .slice A4 L.length c4, .slice (some ⟨gb, 0, none⟩) L.length c6, .slice A4 k c4, .slice A7 (L.length + 1) c7] hgx
            have hb0 : Below v11.heap.size v11 (v11.alloc (.cells #[.slice A l.length cap, .slice A4 L.length c4, .slice (some ⟨gb, 0, none⟩) L.length c6, .slice A4 k c4, .slice A7 (L.length + 1) c7] 22)) := (Below.refl _ _).alloc (Nat.le_refl _) _
            have hS := Lib.hid (hS.out.trans (hb0.mono hS.out.size))
            have hr7 := ((Rd.own_ hown2).below hb0).fit
            have hc7 := own_cap hown2
            rw [hgx]
            clear hgx hown2
            generalize v11.alloc (.cells #[.slice A l.length cap, .slice A4 L.length c4, .slice (some ⟨gb, 0, none⟩) L.length c6, .slice A4 k c4, .slice A7 (L.length + 1) c7] 22) = v12 at hbx hb0 hS hr7 ⊢
            clear hb0
            refine wpAnyH_take (i := 13) (v := .int .i64 5) rfl (by kernel_rfl) (by kernel_rfl) (by kernel_rfl) (fun _ _ _ h => h) (Or.inl ⟨by kernel_rfl, fun w _ => by go_simp⟩) hS.out ?_
            refine wpAnyH_done (by kernel_rfl) ?_ _
            go_wp2_with fail
            go_meet
            exact ⟨gx, A7, c7, rfl, rfl, rfl, Lib.hid hbx, Lib.hid (by simpa [bv] using hr7), Lib.hid hc7, hS⟩
          · go_simp
            refine hK.out _ _ (hS.out.alloc hS.out.size _) (fun _ => ?_)
            clear hK K
            obtain ⟨h1, hh1⟩ : ∃ x, v1.heap.size = x := ⟨_, rfl⟩
            have hent := (Rd.oneAt v1 (.int .u8 (y : Int)) 5 hh1).fit
            have hb0 : Below v1.heap.size v1 (v1.alloc (.cells #[.int .u8 (y : Int)] 5)) := (Below.refl _ _).alloc (Nat.le_refl _) _
            have hS := Lib.hid (hS.out.trans (hb0.mono hS.out.size))
            have HG01 : Hid (h0 ≠ h1) := Lib.hid (by have := (hown0.lt h0 rfl).2; omega)
            have hown0 := ownsRow_below hown0 hb0
            rw [hh1]
            clear hh1
            generalize v1.alloc (.cells #[.int .u8 (y : Int)] 5) = v2 at hent hb0 hS hown0 ⊢
            clear hb0
            refine wpAnyH_ready (rs := [8]) (by kernel_rfl) (by simp) ?_
            refine AllReadyH.cons rfl (fun K hK => ?_) AllReadyH.nil
            refine step_append_BN (W := wc) (c' := c4) cellB (.tmp 118) (.tmp 119) rfl rfl (by kernel_rfl) hown0 (by kernel_rfl) (HR4.out.below hS.out) Rd.oneCell (N := L.length) (by omega) (by omega) (by omega) hS.out ?_
            intro B4 e4 v3 hown1 hBn hgn
            have hgb : ∀ k, (Value.slice (some ⟨h0, 0, none⟩) 0 0).ownBlock = some k → k ≠ h1 := by
              intro k hk
              have h1 : h0 = k := by simpa [Value.ownBlock] using hk
              have h2 := HG01.out
              omega
            have hent := hent.rowOther hgn hgb
            have hS := Lib.hid hBn
            refine hK.out _ _ hS.out (fun _ => ?_)
            clear hK K hown0 hBn hgn
            refine wpAnyH_ready (rs := [11]) (by kernel_rfl) (by simp) ?_
            refine AllReadyH.cons rfl (fun K hK => ?_) AllReadyH.nil
            refine step_append_BN (W := wc) (c' := 1) cellB (.tmp 120) (.tmp 122) rfl rfl (by kernel_rfl) hown1 (by kernel_rfl) hent (by intro u hu; simp at hu; subst hu; rfl) (N := L.length + 1) rfl (by omega) (by omega) hS.out ?_
            intro A7 c7 v11 hown2 hBn hgn
            have hS := Lib.hid hBn
            refine hK.out _ _ hS.out (fun _ => ?_)
            clear hK K hown1 hBn hgn hent
            refine wpAnyH_ready (rs := [12]) (by kernel_rfl) (by simp) ?_
            refine AllReadyH.cons rfl (fun K hK => ?_) AllReadyH.nil
            go_simp
            refine hK.out _ _ (hS.out.alloc hS.out.size _) (fun _ => ?_)
            clear hK K
            obtain ⟨gx, hgx⟩ : ∃ x, v11.heap.size = x := ⟨_, rfl⟩
            have hbx := Blk.newAt v11 22 #[.slice A l.length cap, .slice A4 L.length c4, .slice (some ⟨gb, 0, none⟩) L.length c6, .slice A4 k c4, .slice A7 (L.length + 1) c7] hgx
            have hb0 : Below v11.heap.size v11 (v11.alloc (.cells #[.slice A l.length cap, .slice A4 L.length c4, .slice (some ⟨gb, 0, none⟩) L.length c6, .slice A4 k c4, .slice A7 (L.length + 1) c7] 22)) := (Below.refl _ _).alloc (Nat.le_refl _) _
            have hS := Lib.hid (hS.out.trans (hb0.mono hS.out.size))
            have hr7 := ((Rd.own_ hown2).below hb0).fit
            have hc7 := own_cap hown2
            rw [hgx]
            clear hgx hown2
            generalize v11.alloc (.cells #[.slice A l.length cap, .slice A4 L.length c4, .slice (some ⟨gb, 0, none⟩) L.length c6, .slice A4 k c4, .slice A7 (L.length + 1) c7] 22) = v12 at hbx hb0 hS hr7 ⊢
            clear hb0
            refine wpAnyH_take (i := 13) (v := .int .i64 5) rfl (by kernel_rfl) (by kernel_rfl) (by kernel_rfl) (fun _ _ _ h => h) (Or.inl ⟨by kernel_rfl, fun w _ => by go_simp⟩) hS.out ?_
            refine wpAnyH_done (by kernel_rfl) ?_ _
            go_wp2_with fail
            go_meet
            exact ⟨gx, A7, c7, rfl, rfl, rfl, Lib.hid hbx, Lib.hid (by simpa [bv] using hr7), Lib.hid hc7, hS⟩
        · go_simp
          refine hK.out _ _ (hS.out.alloc hS.out.size _) (fun _ => ?_)
          clear hK K
          obtain ⟨h1, hh1⟩ : ∃ x, vd.heap.size = x := ⟨_, rfl⟩
          have hent := (Rd.oneAt vd (.int .u8 (y : Int)) 5 hh1).fit
          have hb0 : Below vd.heap.size vd (vd.alloc (.cells #[.int .u8 (y : Int)] 5)) := (Below.refl _ _).alloc (Nat.le_refl _) _
          have hS := Lib.hid (hS.out.trans (hb0.mono hS.out.size))
          rw [hh1]
          clear hh1
          generalize vd.alloc (.cells #[.int .u8 (y : Int)] 5) = v1 at hent hb0 hS ⊢
          clear hb0
          refine wpAnyH_ready (rs := [6]) (by kernel_rfl) (by simp) ?_
          refine AllReadyH.cons rfl (fun K hK => ?_) AllReadyH.nil
          go_simp
          refine hK.out _ _ (hS.out.alloc hS.out.size _) (fun _ => ?_)
          clear hK K
          obtain ⟨h0, hh0⟩ : ∃ x, v1.heap.size = x := ⟨_, rfl⟩
          have hown0 : (v1.alloc (.cells #[] 5)).ownsRow wc.heap.size 5 1 (.slice (some ⟨h0, 0, none⟩) 0 0) 0 [] := by rw [← hh0]; exact own_empty (W := wc) hS.out 5
          have hb0 : Below v1.heap.size v1 (v1.alloc (.cells #[] 5)) := (Below.refl _ _).alloc (Nat.le_refl _) _
          have hS := Lib.hid (hS.out.trans (hb0.mono hS.out.size))
          have HG01 : Hid (h0 ≠ h1) := Lib.hid (by obtain ⟨b', o', e', hb', _⟩ := hent.2 (by omega); injection e' with e'; injection e' with e1' e2'; omega)
          have hent := (hent.below hb0).fit
          rw [hh0]
          clear hh0
          generalize v1.alloc (.cells #[] 5) = v2 at hown0 hb0 hS hent ⊢
          clear hb0
          refine wpAnyH_ready (rs := [8]) (by kernel_rfl) (by simp) ?_
          refine AllReadyH.cons rfl (fun K hK => ?_) AllReadyH.nil
          refine step_append_BN (W := wc) (c' := c4) cellB (.tmp 118) (.tmp 119) rfl rfl (by kernel_rfl) hown0 (by kernel_rfl) (HR4.out.below hS.out) Rd.oneCell (N := L.length) (by omega) (by omega) (by omega) hS.out ?_
          intro B4 e4 v3 hown1 hBn hgn
          have hgb : ∀ k, (Value.slice (some ⟨h0, 0, none⟩) 0 0).ownBlock = some k → k ≠ h1 := by
            intro k hk
            have h1 : h0 = k := by simpa [Value.ownBlock] using hk
            have h2 := HG01.out
            omega
          have hent := hent.rowOther hgn hgb
          have hS := Lib.hid hBn
          refine hK.out _ _ hS.out (fun _ => ?_)
          clear hK K hown0 hBn hgn
          refine wpAnyH_ready (rs := [11]) (by kernel_rfl) (by simp) ?_
          refine AllReadyH.cons rfl (fun K hK => ?_) AllReadyH.nil
          refine step_append_BN (W := wc) (c' := 1) cellB (.tmp 120) (.tmp 122) rfl rfl (by kernel_rfl) hown1 (by kernel_rfl) hent (by intro u hu; simp at hu; subst hu; rfl) (N := L.length + 1) rfl (by omega) (by omega) hS.out ?_
          intro A7 c7 v11 hown2 hBn hgn
          have hS := Lib.hid hBn
          refine hK.out _ _ hS.out (fun _ => ?_)
          clear hK K hown1 hBn hgn hent
          refine wpAnyH_ready (rs := [12]) (by kernel_rfl) (by simp) ?_
          refine AllReadyH.cons rfl (fun K hK => ?_) AllReadyH.nil
          go_simp
          refine hK.out _ _ (hS.out.alloc hS.out.size _) (fun _ => ?_)
          clear hK K
          obtain ⟨gx, hgx⟩ : ∃ x, v11.heap.size = x := ⟨_, rfl⟩
          have hbx := Blk.newAt v11 22 #[.slice A l.length cap, .slice A4 L.length c4, .slice (some ⟨gb, 0, none⟩) L.length c6, .slice A4 k c4, .slice A7 (L.length + 1) c7] hgx
          have hb0 : Below v11.heap.size v11 (v11.alloc (.cells #[.slice A l.length cap, .slice A4 L.length c4, .slice (some ⟨gb, 0, none⟩) L.length c6, .slice A4 k c4, .slice A7 (L.length + 1) c7] 22)) := (Below.refl _ _).alloc (Nat.le_refl _) _
          have hS := Lib.hid (hS.out.trans (hb0.mono hS.out.size))
          have hr7 := ((Rd.own_ hown2).below hb0).fit
          have hc7 := own_cap hown2
          rw [hgx]
          clear hgx hown2
          generalize v11.alloc (.cells #[.slice A l.length cap, .slice A4 L.length c4, .slice (some ⟨gb, 0, none⟩) L.length c6, .slice A4 k c4, .slice A7 (L.length + 1) c7] 22) = v12 at hbx hb0 hS hr7 ⊢
          clear hb0
          refine wpAnyH_take (i := 13) (v := .int .i64 5) rfl (by kernel_rfl) (by kernel_rfl) (by kernel_rfl) (fun _ _ _ h => h) (Or.inl ⟨by kernel_rfl, fun w _ => by go_simp⟩) hS.out ?_
          refine wpAnyH_done (by kernel_rfl) ?_ _
          go_wp2_with fail
          go_meet
          exact ⟨gx, A7, c7, rfl, rfl, rfl, Lib.hid hbx, Lib.hid (by simpa [bv] using hr7), Lib.hid hc7, hS⟩
      case rest =>
        obtain ⟨gx, A7, c7, rfl, rfl, rfl, HBX, HR7, HC7, HB30⟩ := hcut
        rename World => we
        clear hsl
        have HBE := Lib.hid (HB.out.trans (HB30.out.mono HB.out.size))
        have HROW : Hid (∀ wx, Below we.heap.size we wx → ∀ j, j < 5 → ∃ A n c l, wx.cell? ⟨gx, j, none⟩ = some (.slice A n c) ∧ Rd wx wx.heap.size A n (bv l) ∧ n ≤ c ∧ c ≤ maxLen ∧ l.length ≤ 100000 ∧ ∀ x ∈ l, x < 256) := Lib.hid (fun wx hb j hj => by
          have hk := HBX.out.below hb
          have hb1 := HB30.out.trans (hb.mono HB30.out.size)
          have ht := (HR4.out.below hb1).fit
          match j, hj with
          | 0, _ => exact ⟨_, _, _, l, hk.cell 0, (HL1.out.below hb1).fit, HLC.out.1, HLC.out.2, by have := HL200.out; omega, HLT.out⟩
          | 1, _ => exact ⟨_, _, _, L, hk.cell 1, ht, hcap4.1, hcap4.2, by omega, F.out.lt⟩
          | 2, _ => exact ⟨_, _, _, L.set k y, hk.cell 2, ((Rd.own_ HU.out).below hb1).fit, (own_cap HU.out).1, (own_cap HU.out).2, by rw [List.length_set]; omega, fun x hx => by
              rcases List.mem_or_eq_of_mem_set hx with h1 | h1
              · exact F.out.lt x h1
              · have := HY.out; omega⟩
          | 3, _ => exact ⟨_, _, _, L.take k, hk.cell 3, by rw [bv_take]; exact ht.take (by omega), by omega, hcap4.2, by rw [List.length_take]; omega, fun x hx => F.out.lt x (List.mem_of_mem_take hx)⟩
          | 4, _ => exact ⟨_, _, _, L ++ [y], hk.cell 4, (HR7.out.below hb).fit, HC7.out.1, HC7.out.2, by rw [List.length_append]; simp; omega, fun x hx => by
              rcases List.mem_append.1 hx with h1 | h1
              · exact F.out.lt x h1
              · have := HY.out; simp at h1; omega⟩)
        clear HBX HR7 HC7 HU HR4 HL1 HB HLC HLT HY HL200 HB30 hlen9 hpos hk hkl hl0 hl0b hki hk0 hlp hcap4 HWD0 HL HGB
        go_wp2_with fail
        go_loopw [126] (fun s126 wr => ∃ (j : Nat), j ≤ 5 ∧ s126 = .int .i64 (j : Int) ∧ Hid (Below we.heap.size we wr)) (fun s126 _ => 5 - (intOf s126).toNat)
        case atStart => exact ⟨0, by omega, rfl, Lib.hid (Below.refl _ _)⟩
        case round =>
          obtain ⟨j, hj, rfl, HBL⟩ := hrel
          rename World => wl
          by_cases hj5 : j < 5
          · have hji : (j : Int) < 5 := by omega
            have hj0 : (0 : Int) ≤ (j : Int) := by omega
            have hwj : IntKind.i64.wrap ((j : Int) + 1) = (j : Int) + 1 := IntWalk.i64_in _ (by omega)
            obtain ⟨A8, n8, c8, l8, hc8, hr8, hnc8, hcm8, hll8, hlb8⟩ := HROW.out _ HBL.out j hj5
            obtain ⟨R, hR⟩ : ∃ R, Mg.dec l8 = R := ⟨_, rfl⟩
            have HRW : Hid ((R.getD Mg.zero).Wide) := Lib.hid (by rw [← hR]; exact dec_wideD hlb8)
            have C1 : Hid (Calls Try.prog 19 #[.slice A8 n8 c8] wl (GotG wl wl R)) := Lib.hid (decode11.is (W := wl) hR (by omega) hlb8 hr8 (Below.refl _ _))
            have C2 : Hid (∀ wx, Below wl.heap.size wl wx → Calls Try.prog 20 #[.slice A8 n8 c8] wx (GotG wx wx R)) := Lib.hid (fun wx hb => refDecode11 (W := wx) hR (by omega) hlb8 ⟨hnc8, hcm8⟩ (hr8.below hb) (Below.refl _ _))
            clear hR hr8 hnc8 hcm8 hll8 hlb8
            obtain ⟨RM, hRM⟩ : ∃ x, R.getD Mg.zero = x := ⟨_, rfl⟩
            obtain ⟨RB, hRB⟩ : ∃ x, R.isSome = x := ⟨_, rfl⟩
            rw [hRM] at HRW
            unfold GotG at C1 C2
            rw [hRM, hRB] at C1
            rw [hRM, hRB] at C2
            clear hRM hRB
            go_upto_region 20 with (first
              | (go_at_call 19; refine C1.out.mono ?_; rintro en w6 ⟨au, he, hou, hBu, hbu⟩
                 have he2 : en = .returned (.tuple #[.agg #[.int .i64 RM.kind, .int .i64 RM.frm, .int .i64 RM.dst, .int .i64 RM.view, .int .i64 RM.inst, .int .i64 RM.len, .bool RM.has, .int .i64 RM.mem, .int .i64 RM.src, .int .i64 RM.pos, .int .i64 RM.tot, .slice au.Ad RM.data.length au.cd, .int .i64 RM.hop, .int .i64 RM.seq, .slice au.Ah RM.hav.length au.ch, .slice au.An RM.nee.length au.cn, .int .i64 RM.idx, .int .i64 RM.ent.s, .int .i64 RM.ent.q, .int .i64 RM.ent.c.kind, .int .i64 RM.ent.c.who, .slice au.c.Ak RM.ent.c.key.length au.c.ck, .slice au.c.Av RM.ent.c.val.length au.c.cv, .slice au.c.Ao RM.ent.c.old.length au.c.co], .bool RB]) := he
                 clear he
                 subst he2
                 have HOU := Lib.hid hou
                 have HB6 := Lib.hid hbu
                 have HZ6 := Lib.hid (Blk.new w6 29 #[.int .i64 0, .int .i64 0, .int .i64 0, .int .i64 0, .int .i64 0, .int .i64 0, .bool false, .int .i64 0, .int .i64 0, .int .i64 0, .int .i64 0, .slice none 0 0, .int .i64 0, .int .i64 0, .slice none 0 0, .slice none 0 0, .int .i64 0, .int .i64 0, .int .i64 0, .int .i64 0, .int .i64 0, .slice none 0 0, .slice none 0 0, .slice none 0 0])
                 clear hou hBu hbu)
              | (refine wpList_store_row rfl 29 (.tmp 21) (.tmp 133) rfl w6.heap.size #[.int .i64 RM.kind, .int .i64 RM.frm, .int .i64 RM.dst, .int .i64 RM.view, .int .i64 RM.inst, .int .i64 RM.len, .bool RM.has, .int .i64 RM.mem, .int .i64 RM.src, .int .i64 RM.pos, .int .i64 RM.tot, .slice au.Ad RM.data.length au.cd, .int .i64 RM.hop, .int .i64 RM.seq, .slice au.Ah RM.hav.length au.ch, .slice au.An RM.nee.length au.cn, .int .i64 RM.idx, .int .i64 RM.ent.s, .int .i64 RM.ent.q, .int .i64 RM.ent.c.kind, .int .i64 RM.ent.c.who, .slice au.c.Ak RM.ent.c.key.length au.c.ck, .slice au.c.Av RM.ent.c.val.length au.c.cv, .slice au.c.Ao RM.ent.c.old.length au.c.co] rfl rfl 29 #[.int .i64 0, .int .i64 0, .int .i64 0, .int .i64 0, .int .i64 0, .int .i64 0, .bool false, .int .i64 0, .int .i64 0, .int .i64 0, .int .i64 0, .slice none 0 0, .int .i64 0, .int .i64 0, .slice none 0 0, .slice none 0 0, .int .i64 0, .int .i64 0, .int .i64 0, .int .i64 0, .int .i64 0, .slice none 0 0, .slice none 0 0, .slice none 0 0] HZ6.out (by kernel_rfl) rfl (by kernel_rfl) ?_)
              | fail)
            have b67 : Below w6.heap.size w6 ((w6.alloc (.cells #[.int .i64 0, .int .i64 0, .int .i64 0, .int .i64 0, .int .i64 0, .int .i64 0, .bool false, .int .i64 0, .int .i64 0, .int .i64 0, .int .i64 0, .slice none 0 0, .int .i64 0, .int .i64 0, .slice none 0 0, .slice none 0 0, .int .i64 0, .int .i64 0, .int .i64 0, .int .i64 0, .int .i64 0, .slice none 0 0, .slice none 0 0, .slice none 0 0] 29)).setRow w6.heap.size #[.int .i64 RM.kind, .int .i64 RM.frm, .int .i64 RM.dst, .int .i64 RM.view, .int .i64 RM.inst, .int .i64 RM.len, .bool RM.has, .int .i64 RM.mem, .int .i64 RM.src, .int .i64 RM.pos, .int .i64 RM.tot, .slice au.Ad RM.data.length au.cd, .int .i64 RM.hop, .int .i64 RM.seq, .slice au.Ah RM.hav.length au.ch, .slice au.An RM.nee.length au.cn, .int .i64 RM.idx, .int .i64 RM.ent.s, .int .i64 RM.ent.q, .int .i64 RM.ent.c.kind, .int .i64 RM.ent.c.who, .slice au.c.Ak RM.ent.c.key.length au.c.ck, .slice au.c.Av RM.ent.c.val.length au.c.cv, .slice au.c.Ao RM.ent.c.old.length au.c.co]) := below_setRow ((Below.refl _ _).alloc (Nat.le_refl _) _) (Nat.le_refl _) _
            have k5 := HZ6.out.row #[.int .i64 RM.kind, .int .i64 RM.frm, .int .i64 RM.dst, .int .i64 RM.view, .int .i64 RM.inst, .int .i64 RM.len, .bool RM.has, .int .i64 RM.mem, .int .i64 RM.src, .int .i64 RM.pos, .int .i64 RM.tot, .slice au.Ad RM.data.length au.cd, .int .i64 RM.hop, .int .i64 RM.seq, .slice au.Ah RM.hav.length au.ch, .slice au.An RM.nee.length au.cn, .int .i64 RM.idx, .int .i64 RM.ent.s, .int .i64 RM.ent.q, .int .i64 RM.ent.c.kind, .int .i64 RM.ent.c.who, .slice au.c.Ak RM.ent.c.key.length au.c.ck, .slice au.c.Av RM.ent.c.val.length au.c.cv, .slice au.c.Ao RM.ent.c.old.length au.c.co]
            obtain ⟨g5, hg5⟩ : ∃ h, w6.heap.size = h := ⟨_, rfl⟩
            generalize (w6.alloc (.cells #[.int .i64 0, .int .i64 0, .int .i64 0, .int .i64 0, .int .i64 0, .int .i64 0, .bool false, .int .i64 0, .int .i64 0, .int .i64 0, .int .i64 0, .slice none 0 0, .int .i64 0, .int .i64 0, .slice none 0 0, .slice none 0 0, .int .i64 0, .int .i64 0, .int .i64 0, .int .i64 0, .int .i64 0, .slice none 0 0, .slice none 0 0, .slice none 0 0] 29)).setRow w6.heap.size #[.int .i64 RM.kind, .int .i64 RM.frm, .int .i64 RM.dst, .int .i64 RM.view, .int .i64 RM.inst, .int .i64 RM.len, .bool RM.has, .int .i64 RM.mem, .int .i64 RM.src, .int .i64 RM.pos, .int .i64 RM.tot, .slice au.Ad RM.data.length au.cd, .int .i64 RM.hop, .int .i64 RM.seq, .slice au.Ah RM.hav.length au.ch, .slice au.An RM.nee.length au.cn, .int .i64 RM.idx, .int .i64 RM.ent.s, .int .i64 RM.ent.q, .int .i64 RM.ent.c.kind, .int .i64 RM.ent.c.who, .slice au.c.Ak RM.ent.c.key.length au.c.ck, .slice au.c.Av RM.ent.c.val.length au.c.cv, .slice au.c.Ao RM.ent.c.old.length au.c.co] = wm at b67 k5 ⊢
            rw [hg5] at k5 ⊢
            have HRU := Lib.hid (HOU.out.rd.below' b67)
            have HK5 : Hid (Blk wm g5 29 #[.int .i64 RM.kind, .int .i64 RM.frm, .int .i64 RM.dst, .int .i64 RM.view, .int .i64 RM.inst, .int .i64 RM.len, .bool RM.has, .int .i64 RM.mem, .int .i64 RM.src, .int .i64 RM.pos, .int .i64 RM.tot, .slice au.Ad RM.data.length au.cd, .int .i64 RM.hop, .int .i64 RM.seq, .slice au.Ah RM.hav.length au.ch, .slice au.An RM.nee.length au.cn, .int .i64 RM.idx, .int .i64 RM.ent.s, .int .i64 RM.ent.q, .int .i64 RM.ent.c.kind, .int .i64 RM.ent.c.who, .slice au.c.Ak RM.ent.c.key.length au.c.ck, .slice au.c.Av RM.ent.c.val.length au.c.cv, .slice au.c.Ao RM.ent.c.old.length au.c.co]) := Lib.hid k5
            have HBM := Lib.hid (HB6.out.trans (b67.mono HB6.out.size))
            clear b67 k5 hg5 HOU HB6 HZ6 hc8 C1
            try dsimp only [Act.put]
            go_upto_region 21 with (first
              | (go_at_call 20; refine (C2.out _ HBM.out).mono ?_; rintro en w7 ⟨av, he, hov, hBv, hbv⟩
                 have he2 : en = .returned (.tuple #[.agg #[.int .i64 RM.kind, .int .i64 RM.frm, .int .i64 RM.dst, .int .i64 RM.view, .int .i64 RM.inst, .int .i64 RM.len, .bool RM.has, .int .i64 RM.mem, .int .i64 RM.src, .int .i64 RM.pos, .int .i64 RM.tot, .slice av.Ad RM.data.length av.cd, .int .i64 RM.hop, .int .i64 RM.seq, .slice av.Ah RM.hav.length av.ch, .slice av.An RM.nee.length av.cn, .int .i64 RM.idx, .int .i64 RM.ent.s, .int .i64 RM.ent.q, .int .i64 RM.ent.c.kind, .int .i64 RM.ent.c.who, .slice av.c.Ak RM.ent.c.key.length av.c.ck, .slice av.c.Av RM.ent.c.val.length av.c.cv, .slice av.c.Ao RM.ent.c.old.length av.c.co], .bool RB]) := he
                 clear he
                 subst he2
                 have HOV := Lib.hid hov
                 have HB7 := Lib.hid hbv
                 have HZ7 := Lib.hid (Blk.new w7 29 #[.int .i64 0, .int .i64 0, .int .i64 0, .int .i64 0, .int .i64 0, .int .i64 0, .bool false, .int .i64 0, .int .i64 0, .int .i64 0, .int .i64 0, .slice none 0 0, .int .i64 0, .int .i64 0, .slice none 0 0, .slice none 0 0, .int .i64 0, .int .i64 0, .int .i64 0, .int .i64 0, .int .i64 0, .slice none 0 0, .slice none 0 0, .slice none 0 0])
                 clear hov hBv hbv)
              | (refine wpList_store_row rfl 29 (.tmp 23) (.tmp 138) rfl w7.heap.size #[.int .i64 RM.kind, .int .i64 RM.frm, .int .i64 RM.dst, .int .i64 RM.view, .int .i64 RM.inst, .int .i64 RM.len, .bool RM.has, .int .i64 RM.mem, .int .i64 RM.src, .int .i64 RM.pos, .int .i64 RM.tot, .slice av.Ad RM.data.length av.cd, .int .i64 RM.hop, .int .i64 RM.seq, .slice av.Ah RM.hav.length av.ch, .slice av.An RM.nee.length av.cn, .int .i64 RM.idx, .int .i64 RM.ent.s, .int .i64 RM.ent.q, .int .i64 RM.ent.c.kind, .int .i64 RM.ent.c.who, .slice av.c.Ak RM.ent.c.key.length av.c.ck, .slice av.c.Av RM.ent.c.val.length av.c.cv, .slice av.c.Ao RM.ent.c.old.length av.c.co] rfl rfl 29 #[.int .i64 0, .int .i64 0, .int .i64 0, .int .i64 0, .int .i64 0, .int .i64 0, .bool false, .int .i64 0, .int .i64 0, .int .i64 0, .int .i64 0, .slice none 0 0, .int .i64 0, .int .i64 0, .slice none 0 0, .slice none 0 0, .int .i64 0, .int .i64 0, .int .i64 0, .int .i64 0, .int .i64 0, .slice none 0 0, .slice none 0 0, .slice none 0 0] HZ7.out (by kernel_rfl) rfl (by kernel_rfl) ?_)
              | fail)
            have b78 : Below w7.heap.size w7 ((w7.alloc (.cells #[.int .i64 0, .int .i64 0, .int .i64 0, .int .i64 0, .int .i64 0, .int .i64 0, .bool false, .int .i64 0, .int .i64 0, .int .i64 0, .int .i64 0, .slice none 0 0, .int .i64 0, .int .i64 0, .slice none 0 0, .slice none 0 0, .int .i64 0, .int .i64 0, .int .i64 0, .int .i64 0, .int .i64 0, .slice none 0 0, .slice none 0 0, .slice none 0 0] 29)).setRow w7.heap.size #[.int .i64 RM.kind, .int .i64 RM.frm, .int .i64 RM.dst, .int .i64 RM.view, .int .i64 RM.inst, .int .i64 RM.len, .bool RM.has, .int .i64 RM.mem, .int .i64 RM.src, .int .i64 RM.pos, .int .i64 RM.tot, .slice av.Ad RM.data.length av.cd, .int .i64 RM.hop, .int .i64 RM.seq, .slice av.Ah RM.hav.length av.ch, .slice av.An RM.nee.length av.cn, .int .i64 RM.idx, .int .i64 RM.ent.s, .int .i64 RM.ent.q, .int .i64 RM.ent.c.kind, .int .i64 RM.ent.c.who, .slice av.c.Ak RM.ent.c.key.length av.c.ck, .slice av.c.Av RM.ent.c.val.length av.c.cv, .slice av.c.Ao RM.ent.c.old.length av.c.co]) := below_setRow ((Below.refl _ _).alloc (Nat.le_refl _) _) (Nat.le_refl _) _
            have k6 := HZ7.out.row #[.int .i64 RM.kind, .int .i64 RM.frm, .int .i64 RM.dst, .int .i64 RM.view, .int .i64 RM.inst, .int .i64 RM.len, .bool RM.has, .int .i64 RM.mem, .int .i64 RM.src, .int .i64 RM.pos, .int .i64 RM.tot, .slice av.Ad RM.data.length av.cd, .int .i64 RM.hop, .int .i64 RM.seq, .slice av.Ah RM.hav.length av.ch, .slice av.An RM.nee.length av.cn, .int .i64 RM.idx, .int .i64 RM.ent.s, .int .i64 RM.ent.q, .int .i64 RM.ent.c.kind, .int .i64 RM.ent.c.who, .slice av.c.Ak RM.ent.c.key.length av.c.ck, .slice av.c.Av RM.ent.c.val.length av.c.cv, .slice av.c.Ao RM.ent.c.old.length av.c.co]
            obtain ⟨g6, hg6⟩ : ∃ h, w7.heap.size = h := ⟨_, rfl⟩
            generalize (w7.alloc (.cells #[.int .i64 0, .int .i64 0, .int .i64 0, .int .i64 0, .int .i64 0, .int .i64 0, .bool false, .int .i64 0, .int .i64 0, .int .i64 0, .int .i64 0, .slice none 0 0, .int .i64 0, .int .i64 0, .slice none 0 0, .slice none 0 0, .int .i64 0, .int .i64 0, .int .i64 0, .int .i64 0, .int .i64 0, .slice none 0 0, .slice none 0 0, .slice none 0 0] 29)).setRow w7.heap.size #[.int .i64 RM.kind, .int .i64 RM.frm, .int .i64 RM.dst, .int .i64 RM.view, .int .i64 RM.inst, .int .i64 RM.len, .bool RM.has, .int .i64 RM.mem, .int .i64 RM.src, .int .i64 RM.pos, .int .i64 RM.tot, .slice av.Ad RM.data.length av.cd, .int .i64 RM.hop, .int .i64 RM.seq, .slice av.Ah RM.hav.length av.ch, .slice av.An RM.nee.length av.cn, .int .i64 RM.idx, .int .i64 RM.ent.s, .int .i64 RM.ent.q, .int .i64 RM.ent.c.kind, .int .i64 RM.ent.c.who, .slice av.c.Ak RM.ent.c.key.length av.c.ck, .slice av.c.Av RM.ent.c.val.length av.c.cv, .slice av.c.Ao RM.ent.c.old.length av.c.co] = wn at b78 k6 ⊢
            rw [hg6] at k6 ⊢
            have bmn : Below wm.heap.size wm wn := HB7.out.trans (b78.mono HB7.out.size)
            have HRV := Lib.hid (HOV.out.rd.below' b78)
            have HRU := Lib.hid (HRU.out.below' bmn)
            have HK5 := Lib.hid (HK5.out.below bmn)
            have HK6 : Hid (Blk wn g6 29 #[.int .i64 RM.kind, .int .i64 RM.frm, .int .i64 RM.dst, .int .i64 RM.view, .int .i64 RM.inst, .int .i64 RM.len, .bool RM.has, .int .i64 RM.mem, .int .i64 RM.src, .int .i64 RM.pos, .int .i64 RM.tot, .slice av.Ad RM.data.length av.cd, .int .i64 RM.hop, .int .i64 RM.seq, .slice av.Ah RM.hav.length av.ch, .slice av.An RM.nee.length av.cn, .int .i64 RM.idx, .int .i64 RM.ent.s, .int .i64 RM.ent.q, .int .i64 RM.ent.c.kind, .int .i64 RM.ent.c.who, .slice av.c.Ak RM.ent.c.key.length av.c.ck, .slice av.c.Av RM.ent.c.val.length av.c.cv, .slice av.c.Ao RM.ent.c.old.length av.c.co]) := Lib.hid k6
            have HBN := Lib.hid (HBM.out.trans (bmn.mono HBM.out.size))
            clear b78 k6 hg6 bmn HOV HB7 HZ7 HBM C2
            have hbb : (RB != RB) = false := by simp
            have C3 : Hid (Calls Try.prog 18 #[.agg #[.int .i64 RM.kind, .int .i64 RM.frm, .int .i64 RM.dst, .int .i64 RM.view, .int .i64 RM.inst, .int .i64 RM.len, .bool RM.has, .int .i64 RM.mem, .int .i64 RM.src, .int .i64 RM.pos, .int .i64 RM.tot, .slice au.Ad RM.data.length au.cd, .int .i64 RM.hop, .int .i64 RM.seq, .slice au.Ah RM.hav.length au.ch, .slice au.An RM.nee.length au.cn, .int .i64 RM.idx, .int .i64 RM.ent.s, .int .i64 RM.ent.q, .int .i64 RM.ent.c.kind, .int .i64 RM.ent.c.who, .slice au.c.Ak RM.ent.c.key.length au.c.ck, .slice au.c.Av RM.ent.c.val.length au.c.cv, .slice au.c.Ao RM.ent.c.old.length au.c.co], .agg #[.int .i64 RM.kind, .int .i64 RM.frm, .int .i64 RM.dst, .int .i64 RM.view, .int .i64 RM.inst, .int .i64 RM.len, .bool RM.has, .int .i64 RM.mem, .int .i64 RM.src, .int .i64 RM.pos, .int .i64 RM.tot, .slice av.Ad RM.data.length av.cd, .int .i64 RM.hop, .int .i64 RM.seq, .slice av.Ah RM.hav.length av.ch, .slice av.An RM.nee.length av.cn, .int .i64 RM.idx, .int .i64 RM.ent.s, .int .i64 RM.ent.q, .int .i64 RM.ent.c.kind, .int .i64 RM.ent.c.who, .slice av.c.Ak RM.ent.c.key.length av.c.ck, .slice av.c.Av RM.ent.c.val.length av.c.cv, .slice av.c.Ao RM.ent.c.old.length av.c.co]] wn fun e w' => e = .returned (.bool true) ∧ Below wn.heap.size wn w') := Lib.hid (by
              have h1 := refSame11_eq wn (a := au) (a' := av) (m := RM) (m' := RM) rfl HRW.out HRW.out HRU.out HRV.out
              rw [decide_eq_true rfl] at h1
              exact h1)
            try dsimp only [Act.put]
            go_wp2_with (first
              | (refine wpList_load_rowW (by kernel_rfl) 29 (.tmp 21) rfl g5 rfl 29 #[.int .i64 RM.kind, .int .i64 RM.frm, .int .i64 RM.dst, .int .i64 RM.view, .int .i64 RM.inst, .int .i64 RM.len, .bool RM.has, .int .i64 RM.mem, .int .i64 RM.src, .int .i64 RM.pos, .int .i64 RM.tot, .slice au.Ad RM.data.length au.cd, .int .i64 RM.hop, .int .i64 RM.seq, .slice au.Ah RM.hav.length au.ch, .slice au.An RM.nee.length au.cn, .int .i64 RM.idx, .int .i64 RM.ent.s, .int .i64 RM.ent.q, .int .i64 RM.ent.c.kind, .int .i64 RM.ent.c.who, .slice au.c.Ak RM.ent.c.key.length au.c.ck, .slice au.c.Av RM.ent.c.val.length au.c.cv, .slice au.c.Ao RM.ent.c.old.length au.c.co] (0, 0) _ HK5.out Try.underlying29 rfl (by kernel_rfl) ?_)
              | (refine wpList_load_rowW (by kernel_rfl) 29 (.tmp 23) rfl g6 rfl 29 #[.int .i64 RM.kind, .int .i64 RM.frm, .int .i64 RM.dst, .int .i64 RM.view, .int .i64 RM.inst, .int .i64 RM.len, .bool RM.has, .int .i64 RM.mem, .int .i64 RM.src, .int .i64 RM.pos, .int .i64 RM.tot, .slice av.Ad RM.data.length av.cd, .int .i64 RM.hop, .int .i64 RM.seq, .slice av.Ah RM.hav.length av.ch, .slice av.An RM.nee.length av.cn, .int .i64 RM.idx, .int .i64 RM.ent.s, .int .i64 RM.ent.q, .int .i64 RM.ent.c.kind, .int .i64 RM.ent.c.who, .slice av.c.Ak RM.ent.c.key.length av.c.ck, .slice av.c.Av RM.ent.c.val.length av.c.cv, .slice av.c.Ao RM.ent.c.old.length av.c.co] (0, 0) _ HK6.out Try.underlying29 rfl (by kernel_rfl) ?_)
              | (go_at_call 18; refine C3.out.mono ?_; rintro en w8 ⟨rfl, hb8⟩; have HB8 := Lib.hid hb8; clear hb8)
              | fail)
            go_roundw
            case rel => exact ⟨j + 1, by omega, by go_num, Lib.hid ((HBL.out.trans (HBN.out.mono HBL.out.size)).trans (HB8.out.mono (HBL.out.trans (HBN.out.mono HBL.out.size)).size))⟩
            case measure => simp only [intOf]; omega
          · have hji : ¬ (j : Int) < 5 := by omega
            clear HROW
            go_wp2_with (first
              | (go_at_call 13; refine (AW.out _).mono ?_; rintro e w9 ⟨rfl, hb9⟩; have HB9 := Lib.hid hb9; clear hb9)
              | fail)
            go_ret
            have h1 := HBE.out.trans (HBL.out.mono HBE.out.size)
            exact ⟨rfl, h1.trans (HB9.out.mono h1.size)⟩
end Go.Proofs.Ytlfkgpllleogoaa

