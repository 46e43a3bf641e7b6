/- Ref11EncK -/
import Derived.Test.YtlfkgpllleogoaaMT04
import Derived.Test.YtlfkgpllleogoaaMT46
namespace Go.Proofs.Ytlfkgpllleogoaa
open Go.RowKit
set_option linter.unusedVariables false
theorem refNums_is {W w : World} {A A' : Option Addr} {c n n' c' B' : Nat} {l L : List Nat} {zs : List Int} (hn0 : n = l.length) (hL : l ++ Pk.encs zs = L) (ho : OwnB W w A l.length c l) (h : Rd w B' A' n' (iv zs)) (hl : l.length ≤ 1000000) (hn : n' ≤ 1000) (hB : Below W.heap.size W w) :
    Calls Try.prog 36 #[.slice A n c, .slice A' n' c'] w (GotIn W w L) := by
  subst hn0; subst hL; exact refNums ho h hl hn hB
inductive KB where
  | eq (u : Value)
  | own (W : World) (L : List Nat)
  | ints (zs : List Int)
  | any
def VB (ks : List KB) (i : Nat) (v : Value) (w : World) : Prop := match ks[i]? with
  | some (.eq u) => v = u
  | some (.own W L) => ∃ A c, v = .slice A L.length c ∧ OwnB W w A L.length c L
  | some (.ints zs) => ∃ A c, v = .slice A zs.length c ∧ Rd w w.heap.size A zs.length (iv zs)
  | _ => True
theorem VB.ext (ks : List KB) (i : Nat) (v : Value) (w w' : World) (h : VB ks i v w) (he : Bw w w') : VB ks i v w' := by
  unfold VB at h ⊢
  cases hk : ks[i]? with
  | none => trivial
  | some k =>
    rw [hk] at h
    cases k with
    | eq u => exact h
    | own W L => obtain ⟨A, c, h1, h2⟩ := h; exact ⟨A, c, h1, own_below h2 he⟩
    | ints zs => obtain ⟨A, c, h1, h2⟩ := h; exact ⟨A, c, h1, (h2.below he).fit⟩
    | any => trivial
theorem deps_ofL {md : Region.Mode} {ops : Array Oper} {L : Nat} {deps : Nat → List Nat} (h : ((List.range L).all fun i => (deps i).all fun j => decide (j < L) && Region.waitsFor md ops i j) = true) : ∀ i, i < L → ∀ j ∈ deps i, j < L ∧ Region.waitsFor md ops i j = true := by
  intro i hi j hj
  have h2 := List.all_eq_true.1 (List.all_eq_true.1 h i (List.mem_range.2 hi)) j hj
  rw [Bool.and_eq_true, decide_eq_true_eq] at h2
  exact h2
theorem alls_ofL {md : Region.Mode} {ops : Array Oper} {L : Nat} (h : ((List.range L).all fun j => Region.waitsFor md ops L j) = true) : ∀ j, j < L → Region.waitsFor md ops L j = true :=
  fun j hj => List.all_eq_true.1 h j (List.mem_range.2 hj)
theorem all_opsL {p : Nat → Oper → Prop} {l : List Oper} {L : Nat} (h : AllFrom p 0 (l.take L)) : ∀ i o, i < L → l.toArray[i]? = some o → p i o := fun i o hi ho => by
  have q := h.get i o (by rw [List.getElem?_take, if_pos hi]; simpa using ho)
  rwa [Nat.zero_add] at q
theorem ev_tmpB {a : Act} {t : Nat} {v : Value} (h : a.eval (.tmp t) = v) : a.tmps[t]?.getD undef = v := by rw [← h]; simp [Act.eval]
def dstE15 (i : Nat) : Nat := ([52, 53, 54, 55, 56, 57, 58, 59, 60, 61] : List Nat).getD i 0
def depsE15 (i : Nat) : List Nat := ([[], [], [1], [], [3], [2, 4], [0, 5], [], [7], [6, 8]] : List (List Nat)).getD i []
def FrE15 (w w2 : World) (g : Nat) (a : GA) (m : Mg) (A1 : Option Addr) (c1 : Nat) (HD L1 L2 : List Nat) (a : Act) : Prop := a.eval (.tmp 1) = .pointer (some ⟨g, 0, none⟩) ∧ a.eval (.tmp 3) = .slice A1 HD.length c1
def kindsE15 (w w2 : World) (g : Nat) (a : GA) (m : Mg) (A1 : Option Addr) (c1 : Nat) (HD L1 L2 : List Nat) : List KB := [.own w HD, .eq (.pointer (some ⟨g, 9, none⟩)), .eq (.int .i64 m.pos), .eq (.pointer (some ⟨g, 10, none⟩)), .eq (.int .i64 m.tot), .ints [m.pos, m.tot], .own w L1, .eq (.pointer (some ⟨g, 11, none⟩)), .eq (.slice a.Ad m.data.length a.cd), .own w L2]
def frameE15 (w w2 : World) (g : Nat) (a : GA) (m : Mg) (A1 : Option Addr) (c1 : Nat) (HD L1 L2 : List Nat) (x0 x2 x4 x5 x6 x7 x8 x9 x10 x11 x12 x13 x14 x15 x16 x17 x18 x19 x20 x21 x22 x23 x24 x25 x26 x27 x28 x29 x30 x31 x32 x33 x34 x35 x36 x37 x38 x39 x40 x41 x42 x43 x44 x45 x46 x47 x48 x49 x50 x51 x62 x63 x64 x65 x66 x67 x68 x69 x70 x71 x72 x73 x74 x75 x76 x77 x78 x79 x80 x81 x82 x83 x84 x85 x86 x87 x88 x89 x90 x91 x92 x93 x94 x95 x96 : Value) (U : Nat → Value) : Act := { tmps := List.toArray (x0 :: .pointer (some ⟨g, 0, none⟩) :: x2 :: .slice A1 HD.length c1 :: x4 :: x5 :: x6 :: x7 :: x8 :: x9 :: x10 :: x11 :: x12 :: x13 :: x14 :: x15 :: x16 :: x17 :: x18 :: x19 :: x20 :: x21 :: x22 :: x23 :: x24 :: x25 :: x26 :: x27 :: x28 :: x29 :: x30 :: x31 :: x32 :: x33 :: x34 :: x35 :: x36 :: x37 :: x38 :: x39 :: x40 :: x41 :: x42 :: x43 :: x44 :: x45 :: x46 :: x47 :: x48 :: x49 :: x50 :: x51 :: U 52 :: U 53 :: U 54 :: U 55 :: U 56 :: U 57 :: U 58 :: U 59 :: U 60 :: U 61 :: x62 :: x63 :: x64 :: x65 :: x66 :: x67 :: x68 :: x69 :: x70 :: x71 :: x72 :: x73 :: x74 :: x75 :: x76 :: x77 :: x78 :: x79 :: x80 :: x81 :: x82 :: x83 :: x84 :: x85 :: x86 :: x87 :: x88 :: x89 :: x90 :: x91 :: x92 :: x93 :: x94 :: x95 :: x96 :: []), defers := [] }
def dstE17 (i : Nat) : Nat := ([64, 65, 66, 67, 68, 69, 70, 71, 72, 73, 74, 75, 76] : List Nat).getD i 0
def depsE17 (i : Nat) : List Nat := ([[], [], [1], [], [3], [], [5], [6], [2, 4, 7], [0, 8], [], [10], [9, 11]] : List (List Nat)).getD i []
def FrE17 (w w2 : World) (g : Nat) (a : GA) (m : Mg) (A1 : Option Addr) (c1 : Nat) (HD L1 L2 : List Nat) (a : Act) : Prop := a.eval (.tmp 1) = .pointer (some ⟨g, 0, none⟩) ∧ a.eval (.tmp 3) = .slice A1 HD.length c1
def kindsE17 (w w2 : World) (g : Nat) (a : GA) (m : Mg) (A1 : Option Addr) (c1 : Nat) (HD L1 L2 : List Nat) : List KB := [.own w HD, .eq (.pointer (some ⟨g, 12, none⟩)), .eq (.int .i64 m.hop), .eq (.pointer (some ⟨g, 13, none⟩)), .eq (.int .i64 m.seq), .eq (.pointer (some ⟨g, 14, none⟩)), .eq (.slice a.Ah m.hav.length a.ch), .eq (.int .i64 (m.hav.length : Int)), .ints [m.hop, m.seq, (m.hav.length : Int)], .own w L1, .eq (.pointer (some ⟨g, 14, none⟩)), .eq (.slice a.Ah m.hav.length a.ch), .own w L2]
def frameE17 (w w2 : World) (g : Nat) (a : GA) (m : Mg) (A1 : Option Addr) (c1 : Nat) (HD L1 L2 : List Nat) (x0 x2 x4 x5 x6 x7 x8 x9 x10 x11 x12 x13 x14 x15 x16 x17 x18 x19 x20 x21 x22 x23 x24 x25 x26 x27 x28 x29 x30 x31 x32 x33 x34 x35 x36 x37 x38 x39 x40 x41 x42 x43 x44 x45 x46 x47 x48 x49 x50 x51 x52 x53 x54 x55 x56 x57 x58 x59 x60 x61 x62 x63 x77 x78 x79 x80 x81 x82 x83 x84 x85 x86 x87 x88 x89 x90 x91 x92 x93 x94 x95 x96 : Value) (U : Nat → Value) : Act := { tmps := List.toArray (x0 :: .pointer (some ⟨g, 0, none⟩) :: x2 :: .slice A1 HD.length c1 :: x4 :: x5 :: x6 :: x7 :: x8 :: x9 :: x10 :: x11 :: x12 :: x13 :: x14 :: x15 :: x16 :: x17 :: x18 :: x19 :: x20 :: x21 :: x22 :: x23 :: x24 :: x25 :: x26 :: x27 :: x28 :: x29 :: x30 :: x31 :: x32 :: x33 :: x34 :: x35 :: x36 :: x37 :: x38 :: x39 :: x40 :: x41 :: x42 :: x43 :: x44 :: x45 :: x46 :: x47 :: x48 :: x49 :: x50 :: x51 :: x52 :: x53 :: x54 :: x55 :: x56 :: x57 :: x58 :: x59 :: x60 :: x61 :: x62 :: x63 :: U 64 :: U 65 :: U 66 :: U 67 :: U 68 :: U 69 :: U 70 :: U 71 :: U 72 :: U 73 :: U 74 :: U 75 :: U 76 :: x77 :: x78 :: x79 :: x80 :: x81 :: x82 :: x83 :: x84 :: x85 :: x86 :: x87 :: x88 :: x89 :: x90 :: x91 :: x92 :: x93 :: x94 :: x95 :: x96 :: []), defers := [] }
def dstE18 (i : Nat) : Nat := ([77, 78, 79, 80, 81, 82, 83, 84, 85] : List Nat).getD i 0
def depsE18 (i : Nat) : List Nat := ([[], [], [1], [2], [3], [0, 4], [], [6], [5, 7]] : List (List Nat)).getD i []
def FrE18 (w w2 : World) (g : Nat) (a : GA) (m : Mg) (A1 : Option Addr) (c1 : Nat) (HD L1 L2 : List Nat) (a : Act) : Prop := a.eval (.tmp 1) = .pointer (some ⟨g, 0, none⟩) ∧ a.eval (.tmp 3) = .slice A1 HD.length c1
def kindsE18 (w w2 : World) (g : Nat) (a : GA) (m : Mg) (A1 : Option Addr) (c1 : Nat) (HD L1 L2 : List Nat) : List KB := [.own w HD, .eq (.pointer (some ⟨g, 15, none⟩)), .eq (.slice a.An m.nee.length a.cn), .eq (.int .i64 (m.nee.length : Int)), .ints [(m.nee.length : Int)], .own w L1, .eq (.pointer (some ⟨g, 15, none⟩)), .eq (.slice a.An m.nee.length a.cn), .own w L2]
def frameE18 (w w2 : World) (g : Nat) (a : GA) (m : Mg) (A1 : Option Addr) (c1 : Nat) (HD L1 L2 : List Nat) (x0 x2 x4 x5 x6 x7 x8 x9 x10 x11 x12 x13 x14 x15 x16 x17 x18 x19 x20 x21 x22 x23 x24 x25 x26 x27 x28 x29 x30 x31 x32 x33 x34 x35 x36 x37 x38 x39 x40 x41 x42 x43 x44 x45 x46 x47 x48 x49 x50 x51 x52 x53 x54 x55 x56 x57 x58 x59 x60 x61 x62 x63 x64 x65 x66 x67 x68 x69 x70 x71 x72 x73 x74 x75 x76 x86 x87 x88 x89 x90 x91 x92 x93 x94 x95 x96 : Value) (U : Nat → Value) : Act := { tmps := List.toArray (x0 :: .pointer (some ⟨g, 0, none⟩) :: x2 :: .slice A1 HD.length c1 :: x4 :: x5 :: x6 :: x7 :: x8 :: x9 :: x10 :: x11 :: x12 :: x13 :: x14 :: x15 :: x16 :: x17 :: x18 :: x19 :: x20 :: x21 :: x22 :: x23 :: x24 :: x25 :: x26 :: x27 :: x28 :: x29 :: x30 :: x31 :: x32 :: x33 :: x34 :: x35 :: x36 :: x37 :: x38 :: x39 :: x40 :: x41 :: x42 :: x43 :: x44 :: x45 :: x46 :: x47 :: x48 :: x49 :: x50 :: x51 :: x52 :: x53 :: x54 :: x55 :: x56 :: x57 :: x58 :: x59 :: x60 :: x61 :: x62 :: x63 :: x64 :: x65 :: x66 :: x67 :: x68 :: x69 :: x70 :: x71 :: x72 :: x73 :: x74 :: x75 :: x76 :: U 77 :: U 78 :: U 79 :: U 80 :: U 81 :: U 82 :: U 83 :: U 84 :: U 85 :: x86 :: x87 :: x88 :: x89 :: x90 :: x91 :: x92 :: x93 :: x94 :: x95 :: x96 :: []), defers := [] }
def dstE20 (i : Nat) : Nat := ([88, 89, 90, 91, 92, 93, 94, 95] : List Nat).getD i 0
def depsE20 (i : Nat) : List Nat := ([[], [], [1], [2], [0, 3], [], [5], [4, 6]] : List (List Nat)).getD i []
def FrE20 (w w2 : World) (g : Nat) (a : GA) (m : Mg) (A1 : Option Addr) (c1 : Nat) (HD L1 L2 : List Nat) (a : Act) : Prop := a.eval (.tmp 1) = .pointer (some ⟨g, 0, none⟩) ∧ a.eval (.tmp 3) = .slice A1 HD.length c1
def kindsE20 (w w2 : World) (g : Nat) (a : GA) (m : Mg) (A1 : Option Addr) (c1 : Nat) (HD L1 L2 : List Nat) : List KB := [.own w HD, .eq (.pointer (some ⟨g, 16, none⟩)), .eq (.int .i64 m.idx), .ints [m.idx], .own w L1, .eq (.pointer (some ⟨g, 17, none⟩)), .eq (.agg #[.int .i64 m.ent.s, .int .i64 m.ent.q, .int .i64 m.ent.c.kind, .int .i64 m.ent.c.who, .slice a.c.Ak m.ent.c.key.length a.c.ck, .slice a.c.Av m.ent.c.val.length a.c.cv, .slice a.c.Ao m.ent.c.old.length a.c.co]), .own w L2]
def frameE20 (w w2 : World) (g : Nat) (a : GA) (m : Mg) (A1 : Option Addr) (c1 : Nat) (HD L1 L2 : List Nat) (x0 x2 x4 x5 x6 x7 x8 x9 x10 x11 x12 x13 x14 x15 x16 x17 x18 x19 x20 x21 x22 x23 x24 x25 x26 x27 x28 x29 x30 x31 x32 x33 x34 x35 x36 x37 x38 x39 x40 x41 x42 x43 x44 x45 x46 x47 x48 x49 x50 x51 x52 x53 x54 x55 x56 x57 x58 x59 x60 x61 x62 x63 x64 x65 x66 x67 x68 x69 x70 x71 x72 x73 x74 x75 x76 x77 x78 x79 x80 x81 x82 x83 x84 x85 x86 x87 x96 : Value) (U : Nat → Value) : Act := { tmps := List.toArray (x0 :: .pointer (some ⟨g, 0, none⟩) :: x2 :: .slice A1 HD.length c1 :: x4 :: x5 :: x6 :: x7 :: x8 :: x9 :: x10 :: x11 :: x12 :: x13 :: x14 :: x15 :: x16 :: x17 :: x18 :: x19 :: x20 :: x21 :: x22 :: x23 :: x24 :: x25 :: x26 :: x27 :: x28 :: x29 :: x30 :: x31 :: x32 :: x33 :: x34 :: x35 :: x36 :: x37 :: x38 :: x39 :: x40 :: x41 :: x42 :: x43 :: x44 :: x45 :: x46 :: x47 :: x48 :: x49 :: x50 :: x51 :: x52 :: x53 :: x54 :: x55 :: x56 :: x57 :: x58 :: x59 :: x60 :: x61 :: x62 :: x63 :: x64 :: x65 :: x66 :: x67 :: x68 :: x69 :: x70 :: x71 :: x72 :: x73 :: x74 :: x75 :: x76 :: x77 :: x78 :: x79 :: x80 :: x81 :: x82 :: x83 :: x84 :: x85 :: x86 :: x87 :: U 88 :: U 89 :: U 90 :: U 91 :: U 92 :: U 93 :: U 94 :: U 95 :: x96 :: []), defers := [] }
end Go.Proofs.Ytlfkgpllleogoaa

