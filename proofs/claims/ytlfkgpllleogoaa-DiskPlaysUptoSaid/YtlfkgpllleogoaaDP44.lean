/- DiskPlaysWalk -/
import Derived.Test.YtlfkgpllleogoaaDP30
import Derived.Test.YtlfkgpllleogoaaDP33
import Derived.Test.YtlfkgpllleogoaaDP39
import Derived.Test.YtlfkgpllleogoaaDP40
import Derived.Test.YtlfkgpllleogoaaDP43
import Derived.BigQuiet
namespace Go.Proofs.Ytlfkgpllleogoaa
open Go.RowKit
set_option linter.unusedVariables false
theorem dreadD {W w : World} {A A2 : Option Addr} {n c n2 c2 : Nat} {x y : List Nat} {r : Option Dk.Rc} (he : Dk.read x y = r) (h : RdD w A A2 n c n2 c2 x y) (hB : Below W.heap.size W w) : Calls Try.prog 27 #[.agg #[.slice A n c, .slice A2 n2 c2]] w (GotRc W w r) :=
  dread he h.fa h.fb h.ca.1 h.cb.1 h.a h.b hB
theorem dwriteD {W w : World} {A A2 : Option Addr} {n c n2 c2 : Nat} {x y x' y' : List Nat} {i p q cut : Int} (he : Dk.write x y i p q cut = (x', y')) (h : RdD w A A2 n c n2 c2 x y) (hB : Below W.heap.size W w) : Calls Try.prog 26 #[.agg #[.slice A n c, .slice A2 n2 c2], .agg #[.int .i64 i, .int .i64 p, .int .i64 q], .int .i64 cut] w (GotDD W w x' y') := by
  refine (dwrite he h.fa h.fb h.ca.1 h.cb.1 h.a h.b hB).mono ?_
  rintro e w' ⟨A, c, A', c', h1, h2, h3, h4, h5⟩
  have hf := Dk.write_fine h.fa h.fb i p q cut
  rw [he] at hf
  exact ⟨A, c, A', c', h1, ⟨h2, h3, hf.1, hf.2⟩, h4, h5⟩
/-- over a store into a disk's variable -/
theorem Rd.rowD {w : World} {A E1 E2 : Option Addr} {n b p1 q1 p2 q2 : Nat} {l : List Nat} {t : TypeId} {cs : Array Value} (h : Rd w w.heap.size A n (bv l)) (hb : Blk w b t #[.slice E1 p1 q1, .slice E2 p2 q2]) : Rd (w.setRow b cs) (w.setRow b cs).heap.size A n (bv l) := by
  obtain ⟨h1, h2⟩ := h
  refine ⟨h1, fun hn => ?_⟩
  obtain ⟨k, o, rfl, hlt, hc⟩ := h2 hn
  have hln : l.length = n := by rw [bv_length] at h1; exact h1
  have hne : k ≠ b := by
    rintro rfl
    have c0 := hc 0 hn
    rw [hb.cell, bv_get (by omega)] at c0
    match o, c0 with
    | 0, c0 => simp at c0
    | 1, c0 => simp at c0
    | o + 2, c0 => simp at c0
  have e := setRow_other w b k cs hne
  refine ⟨k, o, rfl, by simpa using hlt, fun j hj => ?_⟩
  rw [← hc j hj]
  simp only [World.cell?, e]
theorem RdD.row {w : World} {A A' E1 E2 : Option Addr} {n c n' c' b p1 q1 p2 q2 : Nat} {x y : List Nat} {t : TypeId} {cs : Array Value} (h : RdD w A A' n c n' c' x y) (hb : Blk w b t #[.slice E1 p1 q1, .slice E2 p2 q2]) : RdD (w.setRow b cs) A A' n c n' c' x y := ⟨h.a.rowD hb, h.b.rowD hb, h.ca, h.cb, h.fa, h.fb⟩
inductive KG where
  | eq (u : Value)
  | row (L : List Nat)
  | any
def VG (ks : List KG) (i : Nat) (v : Value) (w : World) : Prop := match ks[i]? with
  | some (.eq u) => v = u
  | some (.row L) => ∃ A c, v = .slice A L.length c ∧ Rd w w.heap.size A L.length (bv L) ∧ L.length ≤ c
  | _ => True
theorem VG.ext (ks : List KG) (i : Nat) (v : Value) (w w' : World) (h : VG ks i v w) (he : Ext w w') : VG ks i v w' := by
  unfold VG at h ⊢
  cases hk : ks[i]? with
  | none => trivial
  | some k =>
    rw [hk] at h
    cases k with
    | eq u => exact h
    | row L => obtain ⟨A, c, h1, h2, h3⟩ := h; exact ⟨A, c, h1, h2.keep he.2 he.1, h3⟩
    | any => trivial
theorem wanted_ofG {o : Oper} {y : Nat → Option Bool} {j : Nat} {b c r : Bool} (hg : o.guard = some (j, b)) (hy : y j = some c) (hr : (c == b) = r) : Region.wanted o y = r := by
  subst hr; unfold Region.wanted; rw [hg]; simp [hy]
theorem yielded_ofG {ops : Array Oper} {tmps : Array Value} {j s : Nat} {b : Bool} (ho : (ops[j]?).bind (·.dst) = some s) (ht : tmps[s]? = some (.bool b)) : yielded ops tmps j = some b := by
  unfold yielded; rw [ho, Option.bind_some, ht]
theorem deps_ofG {md : Region.Mode} {ops : Array Oper} {deps : Nat → List Nat} (h : ((List.range ops.size).all fun i => (deps i).all fun j => Region.waitsFor md ops i j) = true) : ∀ i, i < ops.size → ∀ j ∈ deps i, Region.waitsFor md ops i j = true := by
  intro i hi j hj
  exact List.all_eq_true.1 (List.all_eq_true.1 h i (List.mem_range.2 hi)) j hj
theorem ev_tmpG {a : Act} {t : Nat} {v : Value} (h : a.eval (.tmp t) = v) : a.tmps[t]?.getD undef = v := by rw [← h]; simp [Act.eval]
def dstP16 (i : Nat) : Nat := ([95, 96, 97, 98, 99, 100, 101, 102, 103, 104, 105, 106, 107, 108, 109, 110, 111, 112, 113, 114, 115, 116, 117, 118, 119] : List Nat).getD i 0
def depsP16 (i : Nat) : List Nat := ([[], [], [0, 1], [2], [3], [3], [4, 5, 3], [3, 6], [7], [8], [8], [9, 10, 8], [11, 8], [8], [12, 13, 8], [14, 8], [8], [8], [16, 17, 8], [18, 8], [8], [19, 20, 8], [21, 8], [15, 22, 8], [8, 23]] : List (List Nat)).getD i []
def FrP16 (bl o n0 c0 k g12 g14 g16 : Nat) (s : Bool) (z zq r0 r1 r2 : Int) (S : List Nat) (a : Act) : Prop := a.eval (.tmp 2) = .slice (some ⟨bl, o, none⟩) n0 c0 ∧ a.eval (.tmp 11) = .int .i64 (k : Int) ∧ a.eval (.tmp 12) = .pointer (some ⟨g12, 0, none⟩) ∧ a.eval (.tmp 14) = .pointer (some ⟨g14, 0, none⟩) ∧ a.eval (.tmp 15) = .bool s ∧ a.eval (.tmp 16) = .pointer (some ⟨g16, 0, none⟩) ∧ a.eval (.tmp 17) = .bool s
def kindsP16 (bl o n0 c0 k g12 g14 g16 : Nat) (s : Bool) (z zq r0 r1 r2 : Int) (S : List Nat) : List KG := [.eq (.agg #[.int .i64 r0, .int .i64 r1, .int .i64 r2]), .eq (.agg #[.int .i64 r0, .int .i64 r1, .int .i64 r2]), .eq (.bool false), .eq (.bool false), .eq (.bool s), .eq (.bool s), .eq (.bool false), .eq (.bool false), .eq (.bool false), .eq (.slice (some ⟨bl, o, none⟩) n0 c0), .eq (.int .i64 (k : Int)), .eq (.pointer (some ⟨bl, o + k, none⟩)), .eq (.int .i64 z), .eq (.agg #[.int .i64 (z / 8), .int .i64 z, .int .i64 zq]), .row S, .eq (.string (strB S)), .eq (.slice (some ⟨bl, o, none⟩) n0 c0), .eq (.int .i64 (k : Int)), .eq (.pointer (some ⟨bl, o + k, none⟩)), .eq (.int .i64 z), .eq (.agg #[.int .i64 (z / 8), .int .i64 z, .int .i64 zq]), .row S, .eq (.string (strB S)), .eq (.bool false), .eq (.bool false)]
def frameP16 (bl o n0 c0 k g12 g14 g16 : Nat) (s : Bool) (z zq r0 r1 r2 : Int) (S : List Nat) (x0 x1 x3 x4 x5 x6 x7 x8 x9 x10 x13 x18 x19 x20 x21 x22 x23 x24 x25 x26 x27 x28 x29 x30 x31 x32 x33 x34 x35 x36 x37 x38 x39 x40 x41 x42 x43 x44 x45 x46 x47 x48 x49 x50 x51 x52 x53 x54 x55 x56 x57 x58 x59 x60 x61 x62 x63 x64 x65 x66 x67 x68 x69 x70 x71 x72 x73 x74 x75 x76 x77 x78 x79 x80 x81 x82 x83 x84 x85 x86 x87 x88 x89 x90 x91 x92 x93 x94 x120 x121 x122 x123 x124 x125 x126 x127 x128 x129 x130 x131 x132 x133 x134 x135 x136 x137 x138 x139 x140 x141 x142 x143 x144 x145 x146 x147 x148 x149 x150 x151 x152 : Value) (U : Nat → Value) : Act := { tmps := List.toArray (x0 :: x1 :: .slice (some ⟨bl, o, none⟩) n0 c0 :: x3 :: x4 :: x5 :: x6 :: x7 :: x8 :: x9 :: x10 :: .int .i64 (k : Int) :: .pointer (some ⟨g12, 0, none⟩) :: x13 :: .pointer (some ⟨g14, 0, none⟩) :: .bool s :: .pointer (some ⟨g16, 0, none⟩) :: .bool s :: x18 :: x19 :: x20 :: x21 :: x22 :: x23 :: x24 :: x25 :: x26 :: x27 :: x28 :: x29 :: x30 :: x31 :: x32 :: x33 :: x34 :: x35 :: x36 :: x37 :: x38 :: x39 :: x40 :: x41 :: x42 :: x43 :: x44 :: x45 :: x46 :: x47 :: x48 :: x49 :: x50 :: x51 :: x52 :: x53 :: x54 :: x55 :: x56 :: x57 :: x58 :: x59 :: x60 :: x61 :: x62 :: x63 :: x64 :: x65 :: x66 :: x67 :: x68 :: x69 :: x70 :: x71 :: x72 :: x73 :: x74 :: x75 :: x76 :: x77 :: x78 :: x79 :: x80 :: x81 :: x82 :: x83 :: x84 :: x85 :: x86 :: x87 :: x88 :: x89 :: x90 :: x91 :: x92 :: x93 :: x94 :: U 95 :: U 96 :: U 97 :: U 98 :: U 99 :: U 100 :: U 101 :: U 102 :: U 103 :: U 104 :: U 105 :: U 106 :: U 107 :: U 108 :: U 109 :: U 110 :: U 111 :: U 112 :: U 113 :: U 114 :: U 115 :: U 116 :: U 117 :: U 118 :: U 119 :: x120 :: x121 :: x122 :: x123 :: x124 :: x125 :: x126 :: x127 :: x128 :: x129 :: x130 :: x131 :: x132 :: x133 :: x134 :: x135 :: x136 :: x137 :: x138 :: x139 :: x140 :: x141 :: x142 :: x143 :: x144 :: x145 :: x146 :: x147 :: x148 :: x149 :: x150 :: x151 :: x152 :: []), defers := [] }
def frameP18 (bl o n0 c0 k g9 g10 g12 : Nat) (cut : Int) (x0 x1 x3 x4 x5 x6 x7 x8 x11 x14 x15 x16 x17 x18 x19 x20 x21 x22 x23 x24 x25 x26 x27 x28 x29 x30 x31 x32 x33 x34 x35 x36 x37 x38 x39 x40 x41 x42 x43 x44 x45 x46 x47 x48 x49 x50 x51 x52 x53 x54 x55 x56 x57 x58 x59 x60 x61 x62 x63 x64 x65 x66 x67 x68 x69 x70 x71 x72 x73 x74 x75 x76 x77 x78 x79 x80 x81 x82 x83 x84 x85 x86 x87 x88 x89 x90 x91 x92 x93 x94 x95 x96 x97 x98 x99 x100 x101 x102 x103 x104 x105 x106 x107 x108 x109 x110 x111 x112 x113 x114 x115 x116 x117 x118 x119 x128 x129 x130 x131 x132 x133 x134 x135 x136 x137 x138 x139 x140 x141 x142 x143 x144 x145 x146 x147 x148 x149 x150 x151 x152 : Value) (U : Nat → Value) : Act := { tmps := List.toArray (x0 :: x1 :: .slice (some ⟨bl, o, none⟩) n0 c0 :: x3 :: x4 :: x5 :: x6 :: x7 :: x8 :: .pointer (some ⟨g9, 0, none⟩) :: .pointer (some ⟨g10, 0, none⟩) :: x11 :: .pointer (some ⟨g12, 0, none⟩) :: .int .i64 cut :: x14 :: x15 :: x16 :: x17 :: x18 :: x19 :: x20 :: x21 :: x22 :: x23 :: x24 :: x25 :: x26 :: x27 :: x28 :: x29 :: x30 :: x31 :: x32 :: x33 :: x34 :: x35 :: x36 :: x37 :: x38 :: x39 :: x40 :: x41 :: x42 :: x43 :: x44 :: x45 :: x46 :: x47 :: x48 :: x49 :: x50 :: x51 :: x52 :: x53 :: x54 :: x55 :: x56 :: x57 :: x58 :: x59 :: x60 :: x61 :: x62 :: x63 :: x64 :: x65 :: x66 :: x67 :: x68 :: x69 :: x70 :: x71 :: x72 :: x73 :: x74 :: x75 :: x76 :: x77 :: x78 :: x79 :: x80 :: x81 :: x82 :: x83 :: x84 :: x85 :: x86 :: x87 :: x88 :: x89 :: x90 :: x91 :: x92 :: x93 :: x94 :: x95 :: x96 :: x97 :: x98 :: x99 :: x100 :: x101 :: x102 :: x103 :: x104 :: x105 :: x106 :: x107 :: x108 :: x109 :: x110 :: x111 :: x112 :: x113 :: x114 :: x115 :: x116 :: x117 :: x118 :: x119 :: U 120 :: U 121 :: U 122 :: U 123 :: U 124 :: U 125 :: U 126 :: U 127 :: x128 :: x129 :: x130 :: x131 :: x132 :: x133 :: x134 :: x135 :: x136 :: x137 :: x138 :: x139 :: x140 :: x141 :: x142 :: x143 :: x144 :: x145 :: x146 :: x147 :: x148 :: x149 :: x150 :: x151 :: x152 :: []), defers := [] }
def dstP18 (i : Nat) : Option Nat := ([some 120, some 121, some 122, some 123, some 124, some 125, some 126, some 127, none, none] : List (Option Nat)).getD i none
def depsP18 (i : Nat) : List Nat := ([[], [], [], [0, 1, 2], [], [], [], [3, 4, 5, 6], [3, 7], [7, 8]] : List (List Nat)).getD i []
def FrP18 (g9 g10 g12 : Nat) (cut : Int) (a : Act) : Prop := a.eval (.tmp 9) = .pointer (some ⟨g9, 0, none⟩) ∧ a.eval (.tmp 10) = .pointer (some ⟨g10, 0, none⟩) ∧ a.eval (.tmp 12) = .pointer (some ⟨g12, 0, none⟩) ∧ a.eval (.tmp 13) = .int .i64 cut
/-- what each of its first operations makes -/
def VP18 (w0 : World) (ra rb rr : Array Value) (cut : Int) (a' b' : List Nat) : Nat → Value → World → Prop
  | 0, v, _ => v = .agg ra
  | 1, v, _ => v = .agg rr
  | 2, v, _ => v = .int .i64 cut
  | 3, v, w => ∃ A c A' c', v = .agg #[.slice A a'.length c, .slice A' b'.length c'] ∧ OwnD w0 w A A' c c' a' b'
  | 4, v, _ => v = .agg rb
  | 5, v, _ => v = .agg rr
  | 6, v, _ => v = .int .i64 cut
  | 7, v, w => ∃ A n c A' n' c', v = .agg #[.slice A n c, .slice A' n' c'] ∧ RdD w A A' n c n' c' a' b'
  | _, _, _ => True
theorem VP18.below {w0 : World} {ra rb rr : Array Value} {cut : Int} {a' b' : List Nat} : ∀ i v w w', VP18 w0 ra rb rr cut a' b' i v w → Below w.heap.size w w' → VP18 w0 ra rb rr cut a' b' i v w'
  | 0, v, w, w', h, hb => h
  | 1, v, w, w', h, hb => h
  | 2, v, w, w', h, hb => h
  | 3, v, w, w', ⟨A, c, A', c', h1, h2⟩, hb => ⟨A, c, A', c', h1, h2.below hb⟩
  | 4, v, w, w', h, hb => h
  | 5, v, w, w', h, hb => h
  | 6, v, w, w', h, hb => h
  | 7, v, w, w', ⟨A, n, c, A', n', c', h1, h2⟩, hb => ⟨A, n, c, A', n', c', h1, h2.below hb⟩
  | _ + 8, v, w, w', h, hb => trivial
structure JP (W w0 : World) (g9 g10 g12 : Nat) (ra rb rr : Array Value) (cut : Int) (a' b' : List Nat) (L : Nat → Bool) (U : Nat → Value) (w : World) : Prop where
  bel : L 8 = false → Below w0.heap.size w0 w
  val : ∀ i, i < 8 → L i = true → VP18 w0 ra rb rr cut a' b' i (U (120 + i)) w
  c3 : L 3 = true → L 0 = true ∧ L 1 = true ∧ L 2 = true
  c7 : L 7 = true → L 3 = true ∧ L 4 = true ∧ L 5 = true ∧ L 6 = true
  c8 : L 8 = true → L 7 = true
  c9 : L 9 = true → L 8 = true
  st : L 8 = true → Below W.heap.size W w ∧ (∃ cs, U 123 = .agg cs ∧ Blk w g9 44 cs) ∧ Blk w g12 46 rr ∧ (L 9 = false → Blk w g10 44 rb)
  fin : L 9 = true → ∃ cs, U 127 = .agg cs ∧ Blk w g10 44 cs
section
variable {W w0 w w' : World} {g9 g10 g12 : Nat} {ra rb rr : Array Value} {cut : Int} {a' b' : List Nat} {L : Nat → Bool} {U : Nat → Value}
theorem JP.early (h : JP W w0 g9 g10 g12 ra rb rr cut a' b' L U w) {i : Nat} (hi : i < 8) (hn : L i = false) : L 8 = false ∧ L 9 = false := by
  have h8 : L 8 = false := by
    cases q : L 8 with
    | false => rfl
    | true =>
      have h7 := h.c8 q
      obtain ⟨h3, h4, h5, h6⟩ := h.c7 h7
      obtain ⟨h0, h1, h2⟩ := h.c3 h3
      have : i = 0 ∨ i = 1 ∨ i = 2 ∨ i = 3 ∨ i = 4 ∨ i = 5 ∨ i = 6 ∨ i = 7 := by omega
      rcases this with rfl | rfl | rfl | rfl | rfl | rfl | rfl | rfl <;> simp_all
  refine ⟨h8, ?_⟩
  cases q : L 9 with
  | false => rfl
  | true => have := h.c9 q; rw [h8] at this; cases this
theorem JP.step (h : JP W w0 g9 g10 g12 ra rb rr cut a' b' L U w) {i d : Nat} {v : Value} (hi : i < 8) (hd : d = 120 + i) (hn : L i = false) (h3 : i = 3 → L 0 = true ∧ L 1 = true ∧ L 2 = true) (h7 : i = 7 → L 3 = true ∧ L 4 = true ∧ L 5 = true ∧ L 6 = true) (hb : Below w.heap.size w w') (hv : VP18 w0 ra rb rr cut a' b' i v w') : JP W w0 g9 g10 g12 ra rb rr cut a' b' (setJ L i) (updJ (some d) U v) w' := by
  subst hd
  obtain ⟨n8, n9⟩ := h.early hi hn
  have hbl := h.bel n8
  have e8 : setJ L i 8 = false := by rw [setJ_ne (by omega)]; exact n8
  have e9 : setJ L i 9 = false := by rw [setJ_ne (by omega)]; exact n9
  have mono : ∀ k, L k = true → setJ L i k = true := fun k hk => by
    unfold setJ; split
    · rfl
    · exact hk
  refine ⟨fun _ => hbl.trans (hb.mono hbl.size), fun k hk hl => ?_, fun hl => ?_, fun hl => ?_, fun hl => ?_, fun hl => ?_, fun hl => ?_, fun hl => ?_⟩
  · by_cases hki : k = i
    · subst hki
      have e : updJ (some (120 + k)) U v (120 + k) = v := if_pos rfl
      rw [e]; exact hv
    · have e : updJ (some (120 + i)) U v (120 + k) = U (120 + k) := if_neg (by omega)
      rw [e]
      rw [setJ_ne hki] at hl
      exact VP18.below _ _ _ _ (h.val k hk hl) hb
  · by_cases hi3 : i = 3
    · obtain ⟨q0, q1, q2⟩ := h3 hi3
      exact ⟨mono _ q0, mono _ q1, mono _ q2⟩
    · rw [setJ_ne (fun e => hi3 e.symm)] at hl
      obtain ⟨q0, q1, q2⟩ := h.c3 hl
      exact ⟨mono _ q0, mono _ q1, mono _ q2⟩
  · by_cases hi7 : i = 7
    · obtain ⟨q0, q1, q2, q3⟩ := h7 hi7
      exact ⟨mono _ q0, mono _ q1, mono _ q2, mono _ q3⟩
    · rw [setJ_ne (fun e => hi7 e.symm)] at hl
      obtain ⟨q0, q1, q2, q3⟩ := h.c7 hl
      exact ⟨mono _ q0, mono _ q1, mono _ q2, mono _ q3⟩
  · rw [e8] at hl; cases hl
  · rw [e9] at hl; cases hl
  · rw [e8] at hl; cases hl
  · rw [e9] at hl; cases hl
theorem VP18.row {b : Nat} {old cs : Array Value} {E1 E2 : Option Addr} {p1 q1 p2 q2 : Nat} (hk : Blk w b 44 #[.slice E1 p1 q1, .slice E2 p2 q2]) : ∀ i v, VP18 w0 ra rb rr cut a' b' i v w → VP18 w0 ra rb rr cut a' b' i v (w.setRow b cs)
  | 0, v, h => h
  | 1, v, h => h
  | 2, v, h => h
  | 3, v, ⟨A, c, A', c', h1, h2⟩ => ⟨A, c, A', c', h1, h2.row hk (by decide)⟩
  | 4, v, h => h
  | 5, v, h => h
  | 6, v, h => h
  | 7, v, ⟨A, n, c, A', n', c', h1, h2⟩ => ⟨A, n, c, A', n', c', h1, h2.row hk⟩
  | _ + 8, v, h => trivial
theorem JP.put8 (h : JP W w0 g9 g10 g12 ra rb rr cut a' b' L U w) (h7 : L 7 = true) (h8 : L 8 = false) {cs : Array Value} (hu : U 123 = .agg cs) {E1 E2 : Option Addr} {p1 q1 p2 q2 : Nat} (hra : ra = #[.slice E1 p1 q1, .slice E2 p2 q2]) (hk9 : Blk w g9 44 ra) (hk10 : Blk w g10 44 rb) (hk12 : Blk w g12 46 rr) (hne : g9 ≠ g10) (hW : Below W.heap.size W w0) (hg : W.heap.size ≤ g9) : JP W w0 g9 g10 g12 ra rb rr cut a' b' (setJ L 8) (updJ none U undef) (w.setRow g9 cs) := by
  have e8 : setJ L 8 8 = true := setJ_self _ _
  have e : ∀ k, k ≠ 8 → setJ L 8 k = L k := fun k hk => setJ_ne hk
  have hbl := h.bel h8
  have n9 : L 9 = false := by
    cases q : L 9 with
    | false => rfl
    | true => have := h.c9 q; rw [h8] at this; cases this
  subst hra
  refine ⟨fun hl => (by rw [e8] at hl; cases hl), fun k hk hl => ?_, fun hl => ?_, fun hl => ?_, fun _ => ?_, fun hl => ?_, fun _ => ⟨?_, ⟨cs, hu, hk9.row _⟩, hk12.row_other (hk12.apart hk9 (by decide)) _, fun _ => hk10.row_other hne.symm _⟩, fun hl => ?_⟩
  · rw [e k (by omega)] at hl
    exact VP18.row (old := #[]) hk9 _ _ (h.val k hk hl)
  · rw [e 3 (by omega)] at hl
    rw [e 0 (by omega), e 1 (by omega), e 2 (by omega)]; exact h.c3 hl
  · rw [e 7 (by omega)] at hl
    rw [e 3 (by omega), e 4 (by omega), e 5 (by omega), e 6 (by omega)]; exact h.c7 hl
  · rw [e 7 (by omega)]; exact h7
  · exact e8
  · exact below_setRow (hW.trans (hbl.mono hW.size)) hg _
  · rw [e 9 (by omega), n9] at hl; cases hl
theorem JP.put9 (h : JP W w0 g9 g10 g12 ra rb rr cut a' b' L U w) (h8 : L 8 = true) (h9 : L 9 = false) {cs : Array Value} (hu : U 127 = .agg cs) {E1 E2 : Option Addr} {p1 q1 p2 q2 : Nat} (hrb : rb = #[.slice E1 p1 q1, .slice E2 p2 q2]) (hne : g9 ≠ g10) (hg : W.heap.size ≤ g10) : JP W w0 g9 g10 g12 ra rb rr cut a' b' (setJ L 9) (updJ none U undef) (w.setRow g10 cs) := by
  have e9 : setJ L 9 9 = true := setJ_self _ _
  have e : ∀ k, k ≠ 9 → setJ L 9 k = L k := fun k hk => setJ_ne hk
  obtain ⟨k1, ⟨c9, k2, k3⟩, k4, k5⟩ := h.st h8
  have k5 := k5 h9
  subst hrb
  refine ⟨fun hl => (by rw [e 8 (by omega), h8] at hl; cases hl), fun k hk hl => ?_, fun hl => ?_, fun hl => ?_, fun hl => ?_, fun hl => ?_, fun _ => ⟨below_setRow k1 hg _, ⟨c9, k2, k3.row_other hne _⟩, k4.row_other (k4.apart k5 (by decide)) _, fun hl => ?_⟩, fun hl => ⟨cs, hu, k5.row _⟩⟩
  · rw [e k (by omega)] at hl
    exact VP18.row (old := #[]) k5 _ _ (h.val k hk hl)
  · rw [e 3 (by omega)] at hl
    rw [e 0 (by omega), e 1 (by omega), e 2 (by omega)]; exact h.c3 hl
  · rw [e 7 (by omega)] at hl
    rw [e 3 (by omega), e 4 (by omega), e 5 (by omega), e 6 (by omega)]; exact h.c7 hl
  · rw [e 8 (by omega)] at hl
    rw [e 7 (by omega)]; exact h.c8 hl
  · rw [e 8 (by omega)]; exact h8
  · rw [e9] at hl; cases hl
end
set_option maxHeartbeats 8000000 in
set_option maxRecDepth 100000 in
theorem diskPlays_raw (w : World) {A A2 : Option Addr} {n c n2 c2 : Nat} {x y : List Nat} (em : Bool) {N0 C0 : Option Addr} {n0 c0 m0 e0 Bn Bc : Nat} {zs cs : List Int} (hR : RdD w A A2 n c n2 c2 x y) (hz : Rd w Bn N0 n0 (iv zs)) (hc : Rd w Bc C0 m0 (iv cs)) : Calls Try.prog 11 #[.agg #[.slice A n c, .slice A2 n2 c2], .bool em, .slice N0 n0 c0, .slice C0 m0 e0] w fun e w' => e = .returned (.bool true) ∧ Below w.heap.size w w' := by
  have hlz : zs.length = n0 := by have := hz.1; rwa [iv_length] at this
  have hlc : cs.length = m0 := by have := hc.1; rwa [iv_length] at this
  have hlx := hR.a.length
  have hly := hR.b.length
  have hfx := hR.fa.2
  have hfy := hR.fb.2
  obtain ⟨g0, hg0⟩ : ∃ g, w.heap.size = g := ⟨_, rfl⟩
  obtain ⟨wz, hwz⟩ : ∃ wq, w.alloc (.cells #[.slice A n c, .slice A2 n2 c2] 44) = wq := ⟨_, rfl⟩
  have bb : Below w.heap.size w wz := by rw [← hwz]; exact (Below.refl _ _).alloc (Nat.le_refl _) _
  have k1 : Blk wz g0 44 #[.slice A n c, .slice A2 n2 c2] := by rw [← hwz, ← hg0]; exact Blk.new _ _ _
  have y0 : wz.cell? ⟨g0, 0, none⟩ = some (.slice A n c) := k1.cell 0
  have y1 : wz.cell? ⟨g0, 1, none⟩ = some (.slice A2 n2 c2) := k1.cell 1
  have HZ := Lib.hid hz.fit
  have HC := Lib.hid hc.fit
  have HLZ := Lib.hid hlz
  have HLC := Lib.hid hlc
  have HR := Lib.hid (hR.below bb)
  have HB := Lib.hid bb
  have HK := Lib.hid k1
  have HWZ := Lib.hid hwz
  have HG0 := Lib.hid hg0
  have hn1 : n ≤ 2000000 := by omega
  have hn2 : n2 ≤ 2000000 := by omega
  clear hR hz hc hlz hlc hlx hly hfx hfy bb k1 hwz hg0
  go_enter Try.func11, Try.ntmps11
  go_upto_region 1 with fail
  rw [HG0.out, HWZ.out]
  clear HWZ HG0
  by_cases hbig : (200 : Int) < (n : Int) + (n2 : Int)
  · go_wp2_with (go_at_call 28; refine (diskAwake _).mono ?_; rintro e w6 ⟨rfl, hB6⟩)
    go_ret
    exact ⟨rfl, HB.out.trans (hB6.mono HB.out.size)⟩
  · go_upto_region 4 with (first
      | (refine wpList_load_row rfl  44 (.tmp 4) rfl g0 rfl 44 #[.slice A n c, .slice A2 n2 c2] (0, 0) _ HK.out Try.underlying44 rfl (by kernel_rfl) ?_)
      | (refine wpList_store_row rfl 44 (.tmp 9) (.tmp 31) rfl wz.heap.size #[.slice A n c, .slice A2 n2 c2] rfl rfl 44 #[.slice none 0 0, .slice none 0 0] (Blk.new wz 44 #[.slice none 0 0, .slice none 0 0]) (by kernel_rfl) rfl (by kernel_rfl) ?_)
      | fail)
    obtain ⟨g9, wa, hgE, hwE, hbE, hkE⟩ := boxed wz #[.slice none 0 0, .slice none 0 0] #[.slice A n c, .slice A2 n2 c2] 44
    rw [hgE, hwE]
    have HBa := Lib.hid hbE
    have HK9 := Lib.hid hkE
    have HG9 : Hid (w.heap.size ≤ g9) := Lib.hid (by have := HB.out.size; omega)
    clear hgE hwE hbE hkE
    have HR := Lib.hid (HR.out.below HBa.out)
    have HBa := Lib.hid (HB.out.trans (HBa.out.mono HB.out.size))
    clear y0 y1 HB HK hbig hn1 hn2
    have hem : ∃ (B B2 : Option Addr) (m d m2 d2 : Nat) (a b : List Nat), (if em = true then (#[.slice none 0 0, .slice none 0 0] : Array Value) else #[.slice A n c, .slice A2 n2 c2]) = #[.slice B m d, .slice B2 m2 d2] ∧ ∀ wx, RdD wx A A2 n c n2 c2 x y → RdD wx B B2 m d m2 d2 a b := by
      cases em with
      | true => exact ⟨none, none, 0, 0, 0, 0, [], [], rfl, fun wx _ => (OwnD.zero wx wx).rd⟩
      | false => exact ⟨A, A2, n, c, n2, c2, x, y, rfl, fun wx h => h⟩
    obtain ⟨B, B2, m, d, m2, d2, a, b, hrow, hrd⟩ := hem
    have HROW := Lib.hid hrow
    have HRDD := Lib.hid hrd
    clear hrow hrd
    go_upto_if 32 with fail
    go_cut [] from 33 to 33 (fun wx => Hid (Blk wx g9 44 #[.slice B m d, .slice B2 m2 d2]) ∧ Hid (RdD wx A A2 n c n2 c2 x y) ∧ Hid (Below w.heap.size w wx))
    case first =>
      cases em with
      | true =>
        have hrow := HROW.out
        rw [if_pos rfl] at hrow
        have HROW := Lib.hid hrow
        clear hrow
        go_wp2_with (first
          | (refine wpList_store_row rfl 44 (.tmp 9) (.tmp 33) rfl g9 #[.slice none 0 0, .slice none 0 0] rfl rfl 44 #[.slice A n c, .slice A2 n2 c2] HK9.out (by kernel_rfl) rfl (by kernel_rfl) ?_)
          | fail)
        go_meet
        rw [← HROW.out]
        exact ⟨Lib.hid (HK9.out.row _), Lib.hid (HR.out.row HK9.out), Lib.hid (below_setRow HBa.out HG9.out _)⟩
      | false =>
        have hrow := HROW.out
        rw [if_neg (by decide)] at hrow
        have HROW := Lib.hid hrow
        clear hrow
        go_wp2_with fail
        go_meet
        rw [← HROW.out]
        exact ⟨HK9, HR, HBa⟩
    case rest =>
      clear HR HBa HK9
      obtain ⟨HK9, HR, HBa⟩ := hcut
      rename World => wa
      go_upto_region 7 with (first
        | (refine wpList_load_row rfl  44 (.tmp 9) rfl g9 rfl 44 #[.slice B m d, .slice B2 m2 d2] (0, 0) _ HK9.out Try.underlying44 rfl (by kernel_rfl) ?_)
        | (refine wpList_store_row rfl 44 (.tmp 10) (.tmp 34) rfl wa.heap.size #[.slice B m d, .slice B2 m2 d2] rfl rfl 44 #[.slice none 0 0, .slice none 0 0] (Blk.new wa 44 #[.slice none 0 0, .slice none 0 0]) (by kernel_rfl) rfl (by kernel_rfl) ?_)
        | fail)
      obtain ⟨g10, wb, hgE, hwE, hbE, hkE⟩ := boxed wa #[.slice none 0 0, .slice none 0 0] #[.slice B m d, .slice B2 m2 d2] 44
      rw [hgE, hwE]
      have HBb := Lib.hid hbE
      have HK10 := Lib.hid hkE
      have HG10 : Hid (w.heap.size ≤ g10) := Lib.hid (by have := HBa.out.size; omega)
      have HNE : Hid (g9 ≠ g10) := Lib.hid (by have := HK9.out.lt; omega)
      clear hgE hwE hbE hkE
      have HK9 := Lib.hid (HK9.out.below HBb.out)
      have HR1 := Lib.hid (HRDD.out _ (HR.out.below HBb.out))
      have HBb := Lib.hid (HBa.out.trans (HBb.out.mono HBa.out.size))
      clear HR HBa HRDD HROW
      go_wp2_with fail
      go_loopw [11, 12, 13, 14, 15, 16, 17] (fun s11 _ _ _ _ _ _ wr => ∃ (k : Nat) (a b : List Nat) (A A2 B B2 : Option Addr) (n c n2 c2 m d m2 d2 : Nat), k ≤ 20 ∧ s11 = .int .i64 (k : Int) ∧ Hid (Blk wr g9 44 #[.slice A n c, .slice A2 n2 c2]) ∧ Hid (Blk wr g10 44 #[.slice B m d, .slice B2 m2 d2]) ∧ Hid (RdD wr A A2 n c n2 c2 a b) ∧ Hid (RdD wr B B2 m d m2 d2 a b) ∧ Hid (Below w.heap.size w wr)) (fun s11 _ _ _ _ _ _ _ => 20 - (intOf s11).toNat)
      case atStart => exact ⟨0, a, b, B, B2, B, B2, m, d, m2, d2, m, d, m2, d2, by omega, rfl, HK9, HK10, HR1, HR1, HBb⟩
      case round =>
        clear HK9 HK10 HR1 HBb
        rename World => wr
        obtain ⟨k, a, b, A, A2, B, B2, n, c, n2, c2, m, d, m2, d2, hk, rfl, HK9, HK10, HR1, HR2, HB⟩ := hrel
        obtain ⟨R, hR⟩ : ∃ r, Dk.read a b = r := ⟨_, rfl⟩
        obtain ⟨s, hs⟩ : ∃ s, R.isSome = s := ⟨_, rfl⟩
        obtain ⟨r0, r1, r2, hr012⟩ : ∃ r0 r1 r2 : Int, recC R = #[.int .i64 r0, .int .i64 r1, .int .i64 r2] := ⟨_, _, _, rfl⟩
        have HRR := Lib.hid hR
        have HSS0 := Lib.hid hs
        have HR012 := Lib.hid hr012
        clear hR hs hr012
        by_cases hlt : k < n0 ∧ k < m0 ∧ k < 20
        · obtain ⟨hlt1, hlt2, hlt3⟩ := hlt
          obtain ⟨bl, o, rfl, _⟩ := HZ.out.int_at hlt1
          obtain ⟨bm, o2, rfl, _⟩ := HC.out.int_at hlt2
          obtain ⟨z, hz⟩ : ∃ z, zs[k]? = some z := ⟨_, List.getElem?_eq_getElem (by have := HLZ.out; omega)⟩
          obtain ⟨y, hy⟩ : ∃ z, cs[k]? = some z := ⟨_, List.getElem?_eq_getElem (by have := HLC.out; omega)⟩
          have hc1 := (HZ.out.below HB.out).int_cell hlt1 hz
          have hc2 := (HC.out.below HB.out).int_cell hlt2 hy
          have hca : (wr.alloc (.cells #[.int .i64 0, .int .i64 0, .int .i64 0] 46)).cell? ⟨bl, o + k, none⟩ = some (.int .i64 z) := (((Below.refl wr.heap.size wr).alloc (Nat.le_refl _) _).cell (p := ⟨bl, o + k, none⟩) (World.block_lt_of_cell? _ _ hc1)).trans hc1
          have HC1 := Lib.hid hc1
          have HC2 := Lib.hid hc2
          clear hz hy
          go_upto_region 10 with fail
          rw [show decide ((k : Int) < 20) = true from decide_eq_true (by omega)]
          go_region
          have hb5 : Below wr.heap.size wr (wr.alloc (.cells #[.int .i64 (z / 8), .int .i64 z, .int .i64 (z / 2 ^ k)] 46)).drew := ((Below.refl _ _).alloc (Nat.le_refl _) _).trans ⟨rfl, rfl, rfl, Nat.le_refl _, fun _ _ => rfl⟩
          have hk5 : Blk (wr.alloc (.cells #[.int .i64 (z / 8), .int .i64 z, .int .i64 (z / 2 ^ k)] 46)).drew wr.heap.size 46 #[.int .i64 (z / 8), .int .i64 z, .int .i64 (z / 2 ^ k)] := (Blk.new wr 46 #[.int .i64 (z / 8), .int .i64 z, .int .i64 (z / 2 ^ k)]).drew
          obtain ⟨g12, hg12⟩ : ∃ x, wr.heap.size = x := ⟨_, rfl⟩
          rw [hg12] at hk5 ⊢
          generalize (wr.alloc (.cells #[.int .i64 (z / 8), .int .i64 z, .int .i64 (z / 2 ^ k)] 46)).drew = w5 at hb5 hk5 ⊢
          generalize z / 2 ^ k = zq at hk5 ⊢
          have HK12 := Lib.hid hk5
          have HK9 := Lib.hid (HK9.out.below hb5)
          have HK10 := Lib.hid (HK10.out.below hb5)
          have HR1 := Lib.hid (HR1.out.below hb5)
          have HR2 := Lib.hid (HR2.out.below hb5)
          have HCL : Hid (bl < w5.heap.size ∧ w5.cell? ⟨bl, o + k, none⟩ = some (.int .i64 z)) := Lib.hid ⟨Nat.lt_of_lt_of_le (World.block_lt_of_cell? _ _ HC1.out) hb5.size, (hb5.cell (p := ⟨bl, o + k, none⟩) (World.block_lt_of_cell? _ _ HC1.out)).trans HC1.out⟩
          have hc5 : w5.cell? ⟨bm, o2 + k, none⟩ = some (.int .i64 y) := (hb5.cell (p := ⟨bm, o2 + k, none⟩) (World.block_lt_of_cell? _ _ HC2.out)).trans HC2.out
          have HB5 := Lib.hid (HB.out.trans (hb5.mono HB.out.size))
          have HKN : Hid (k < n0) := Lib.hid hlt1
          have a3 := and_3
          have a31 := and_31
          obtain ⟨cut, hct⟩ : ∃ q, (if 0 < y % 4 then y / 4 % 32 - 8 else y) = q := ⟨_, rfl⟩
          have HCT := Lib.hid hct
          clear hk5 hb5 hg12 hc1 hc2 hca HC1 HC2 HB hct
          go_upto_if 77 with fail
          go_cut [13] from 78 to 84 (fun s13 wx => s13 = .int .i64 cut ∧ wx = w5)
          case first =>
            have hct := HCT.out
            by_cases q : 0 < y % 4
            · rw [if_pos q] at hct
              have HCT := Lib.hid hct
              clear hct
              go_wp2_with fail
              go_meet
              rw [← HCT.out]
              exact ⟨rfl, rfl⟩
            · rw [if_neg q] at hct
              have HCT := Lib.hid hct
              clear hct
              go_wp2_with fail
              go_meet
              rw [← HCT.out]
              exact ⟨rfl, rfl⟩
          case rest =>
            obtain ⟨rfl, rfl⟩ := hcut
            rename World => w5
            go_upto_region 15 with (first
              | (refine wpList_load_row rfl  44 (.tmp 9) rfl g9 rfl 44 #[.slice A n c, .slice A2 n2 c2] (0, 0) _ HK9.out Try.underlying44 rfl (by kernel_rfl) ?_)
              | (go_at_call 27; refine (dreadD (W := w) HRR.out HR1.out HB5.out).mono ?_; rintro en w6 ⟨he, hB, hb⟩
                 have he2 : en = .returned (.tuple #[.agg #[.int .i64 r0, .int .i64 r1, .int .i64 r2], .bool s]) := by rw [he, HR012.out, HSS0.out]
                 clear he
                 subst he2
                 have HB6 := Lib.hid hB
                 have HBB := Lib.hid hb
                 clear hB hb)
              | (refine wpList_store_row rfl 46 (.tmp 14) (.tmp 88) rfl w6.heap.size #[.int .i64 r0, .int .i64 r1, .int .i64 r2] rfl rfl 46 #[.int .i64 0, .int .i64 0, .int .i64 0] (Blk.new w6 46 #[.int .i64 0, .int .i64 0, .int .i64 0]) (by kernel_rfl) rfl (by kernel_rfl) ?_)
              | fail)
            obtain ⟨g14, w7, hgE, hwE, hbE, hkE⟩ := boxed w6 #[.int .i64 0, .int .i64 0, .int .i64 0] #[.int .i64 r0, .int .i64 r1, .int .i64 r2] 46
            rw [hgE, hwE]
            have HBc := Lib.hid hbE
            have HK14 := Lib.hid hkE
            clear hgE hwE hbE hkE
            have hb7 : Below w5.heap.size w5 w7 := HBB.out.trans (HBc.out.mono HBB.out.size)
            have HK9 := Lib.hid (HK9.out.below hb7)
            have HK10 := Lib.hid (HK10.out.below hb7)
            have HK12 := Lib.hid (HK12.out.below hb7)
            have HR1 := Lib.hid (HR1.out.below hb7)
            have HR2 := Lib.hid (HR2.out.below hb7)
            have HCL : Hid (bl < w7.heap.size ∧ w7.cell? ⟨bl, o + k, none⟩ = some (.int .i64 z)) := Lib.hid ⟨Nat.lt_of_lt_of_le HCL.out.1 hb7.size, (hb7.cell (p := ⟨bl, o + k, none⟩) HCL.out.1).trans HCL.out.2⟩
            have HB7 := Lib.hid (HB6.out.trans (HBc.out.mono HB6.out.size))
            clear hb7 HBB HBc HB6 HB5 hc5
            go_upto_region 16 with (first
              | (refine wpList_load_row rfl  44 (.tmp 10) rfl g10 rfl 44 #[.slice B m d, .slice B2 m2 d2] (0, 0) _ HK10.out Try.underlying44 rfl (by kernel_rfl) ?_)
              | (go_at_call 30; refine (refread (W := w) HRR.out HR2.out HB7.out).mono ?_; rintro en w8 ⟨he, hB, hb⟩
                 have he2 : en = .returned (.tuple #[.agg #[.int .i64 r0, .int .i64 r1, .int .i64 r2], .bool s]) := by rw [he, HR012.out, HSS0.out]
                 clear he
                 subst he2
                 have HB8 := Lib.hid hB
                 have HBB := Lib.hid hb
                 clear hB hb)
              | (refine wpList_store_row rfl 46 (.tmp 16) (.tmp 93) rfl w8.heap.size #[.int .i64 r0, .int .i64 r1, .int .i64 r2] rfl rfl 46 #[.int .i64 0, .int .i64 0, .int .i64 0] (Blk.new w8 46 #[.int .i64 0, .int .i64 0, .int .i64 0]) (by kernel_rfl) rfl (by kernel_rfl) ?_)
              | fail)
            obtain ⟨g16, w14, hgE, hwE, hbE, hkE⟩ := boxed w8 #[.int .i64 0, .int .i64 0, .int .i64 0] #[.int .i64 r0, .int .i64 r1, .int .i64 r2] 46
            rw [hgE, hwE]
            have HBc := Lib.hid hbE
            have HK16 := Lib.hid hkE
            clear hgE hwE hbE hkE
            have hb7 : Below w7.heap.size w7 w14 := HBB.out.trans (HBc.out.mono HBB.out.size)
            have HK9 := Lib.hid (HK9.out.below hb7)
            have HK10 := Lib.hid (HK10.out.below hb7)
            have HK12 := Lib.hid (HK12.out.below hb7)
            have HR1 := Lib.hid (HR1.out.below hb7)
            have HR2 := Lib.hid (HR2.out.below hb7)
            have HCL : Hid (bl < w14.heap.size ∧ w14.cell? ⟨bl, o + k, none⟩ = some (.int .i64 z)) := Lib.hid ⟨Nat.lt_of_lt_of_le HCL.out.1 hb7.size, (hb7.cell (p := ⟨bl, o + k, none⟩) HCL.out.1).trans HCL.out.2⟩
            have HK14 := Lib.hid (HK14.out.below hb7)
            have HB14 := Lib.hid (HB8.out.trans (HBc.out.mono HB8.out.size))
            clear hb7 HBB HBc HB8 HB7
            obtain ⟨S, hS⟩ : ∃ S, Dk.slot z (z / 8) z zq = S := ⟨_, rfl⟩
            have HSS := Lib.hid hS
            clear hS
            go_cut [119] from 95 to 118 (fun s119 wx => s119 = .bool false ∧ Hid (Below w14.heap.size w14 wx))
            case first =>
              refine region_invG (U0 := fun i => ([u95, u96, u97, u98, u99, u100, u101, u102, u103, u104, u105, u106, u107, u108, u109, u110, u111, u112, u113, u114, u115, u116, u117, u118, u119] : List Value).getD (i - 95) undef) (frameP16 bl o n0 c0 k g12 g14 g16 s z zq r0 r1 r2 S _ _ _ _ _ _ _ _ _ _ _ _ _ _ _ _ _ _ _ _ _ _ _ _ _ _ _ _ _ _ _ _ _ _ _ _ _ _ _ _ _ _ _ _ _ _ _ _ _ _ _ _ _ _ _ _ _ _ _ _ _ _ _ _ _ _ _ _ _ _ _ _ _ _ _ _ _ _ _ _ _ _ _ _ _ _ _ _ _ _ _ _ _ _ _ _ _ _ _ _ _ _ _ _ _ _ _ _ _ _ _ _ _ _ _ _ _ _ _ _ _) dstP16 depsP16 (fun _ => true) (VG (kindsP16 bl o n0 c0 k g12 g14 g16 s z zq r0 r1 r2 S)) (FrP16 bl o n0 c0 k g12 g14 g16 s z zq r0 r1 r2 S) ?hm ?hb ?inj ?dst ?deps ?want ?put ?ev ?fr (VG.ext _) (Below.refl _ _) ?hok ?done
              case hok =>
                refine all_ops (AllFrom.cons ?s0 (AllFrom.cons ?s1 (AllFrom.cons ?s2 (AllFrom.cons ?s3 (AllFrom.cons ?s4 (AllFrom.cons ?s5 (AllFrom.cons ?s6 (AllFrom.cons ?s7 (AllFrom.cons ?s8 (AllFrom.cons ?s9 (AllFrom.cons ?s10 (AllFrom.cons ?s11 (AllFrom.cons ?s12 (AllFrom.cons ?s13 (AllFrom.cons ?s14 (AllFrom.cons ?s15 (AllFrom.cons ?s16 (AllFrom.cons ?s17 (AllFrom.cons ?s18 (AllFrom.cons ?s19 (AllFrom.cons ?s20 (AllFrom.cons ?s21 (AllFrom.cons ?s22 (AllFrom.cons ?s23 (AllFrom.cons ?s24 AllFrom.nil)))))))))))))))))))))))))
                case s0 =>
                  intro a w1 hF hB hdep K hK
                  rw [if_pos rfl]
                  refine wp_load_row 46 (.tmp 14) rfl g14 hF.2.2.2.1 46 #[.int .i64 r0, .int .i64 r1, .int .i64 r2] (0, 0) _ (HK14.out.below hB) Try.underlying46 rfl (by kernel_rfl) ?_
                  exact hK.out _ _ (Ext.refl _) hB rfl
                case s1 =>
                  intro a w1 hF hB hdep K hK
                  rw [if_pos rfl]
                  refine wp_load_row 46 (.tmp 16) rfl g16 hF.2.2.2.2.2.1 46 #[.int .i64 r0, .int .i64 r1, .int .i64 r2] (0, 0) _ (HK16.out.below hB) Try.underlying46 rfl (by kernel_rfl) ?_
                  exact hK.out _ _ (Ext.refl _) hB rfl
                case s2 =>
                  intro a w1 hF hB hdep K hK
                  rw [if_pos rfl]
                  have e0 : a.tmps[95]?.getD undef = .agg #[.int .i64 r0, .int .i64 r1, .int .i64 r2] := ev_tmpG (show a.eval (.tmp 95) = .agg #[.int .i64 r0, .int .i64 r1, .int .i64 r2] from hdep 0 (by decide))
                  have e1 : a.tmps[96]?.getD undef = .agg #[.int .i64 r0, .int .i64 r1, .int .i64 r2] := ev_tmpG (show a.eval (.tmp 96) = .agg #[.int .i64 r0, .int .i64 r1, .int .i64 r2] from hdep 1 (by decide))
                  go_simp
                  exact hK.out _ _ (Ext.refl _) hB rfl
                case s3 =>
                  intro a w1 hF hB hdep K hK
                  rw [if_pos rfl]
                  have e2 : a.tmps[97]?.getD undef = .bool false := ev_tmpG (show a.eval (.tmp 97) = .bool false from hdep 2 (by decide))
                  go_simp
                  exact hK.out _ _ (Ext.refl _) hB rfl
                case s4 =>
                  intro a w1 hF hB hdep K hK
                  rw [if_pos rfl]
                  have f15 : a.tmps[15]?.getD undef = .bool s := ev_tmpG hF.2.2.2.2.1
                  go_simp
                  exact hK.out _ _ (Ext.refl _) hB rfl
                case s5 =>
                  intro a w1 hF hB hdep K hK
                  rw [if_pos rfl]
                  have f17 : a.tmps[17]?.getD undef = .bool s := ev_tmpG hF.2.2.2.2.2.2
                  go_simp
                  exact hK.out _ _ (Ext.refl _) hB rfl
                case s6 =>
                  intro a w1 hF hB hdep K hK
                  rw [if_pos rfl]
                  have e4 : a.tmps[99]?.getD undef = .bool s := ev_tmpG (show a.eval (.tmp 99) = .bool s from hdep 4 (by decide))
                  have e5 : a.tmps[100]?.getD undef = .bool s := ev_tmpG (show a.eval (.tmp 100) = .bool s from hdep 5 (by decide))
                  go_simp
                  exact hK.out _ _ (Ext.refl _) hB rfl
                case s7 =>
                  intro a w1 hF hB hdep K hK
                  rw [if_pos rfl]
                  have e3 : a.tmps[98]?.getD undef = .bool false := ev_tmpG (show a.eval (.tmp 98) = .bool false from hdep 3 (by decide))
                  have e6 : a.tmps[101]?.getD undef = .bool false := ev_tmpG (show a.eval (.tmp 101) = .bool false from hdep 6 (by decide))
                  go_simp
                  exact hK.out _ _ (Ext.refl _) hB rfl
                case s8 =>
                  intro a w1 hF hB hdep K hK
                  rw [if_pos rfl]
                  have e7 : a.tmps[102]?.getD undef = .bool false := ev_tmpG (show a.eval (.tmp 102) = .bool false from hdep 7 (by decide))
                  go_simp
                  exact hK.out _ _ (Ext.refl _) hB rfl
                case s9 =>
                  intro a w1 hF hB hdep K hK
                  rw [if_pos rfl]
                  have f2 : a.tmps[2]?.getD undef = .slice (some ⟨bl, o, none⟩) n0 c0 := ev_tmpG hF.1
                  go_simp
                  exact hK.out _ _ (Ext.refl _) hB rfl
                case s10 =>
                  intro a w1 hF hB hdep K hK
                  rw [if_pos rfl]
                  have f11 : a.tmps[11]?.getD undef = .int .i64 (k : Int) := ev_tmpG hF.2.1
                  go_simp
                  exact hK.out _ _ (Ext.refl _) hB rfl
                case s11 =>
                  intro a w1 hF hB hdep K hK
                  rw [if_pos rfl]
                  have e9 : a.tmps[104]?.getD undef = .slice (some ⟨bl, o, none⟩) n0 c0 := ev_tmpG (show a.eval (.tmp 104) = .slice (some ⟨bl, o, none⟩) n0 c0 from hdep 9 (by decide))
                  have e10 : a.tmps[105]?.getD undef = .int .i64 (k : Int) := ev_tmpG (show a.eval (.tmp 105) = .int .i64 (k : Int) from hdep 10 (by decide))
                  have hkk := HKN.out
                  have hkk2 : (k : Int) < (n0 : Int) := by omega
                  go_simp
                  exact hK.out _ _ (Ext.refl _) hB rfl
                case s12 =>
                  intro a w1 hF hB hdep K hK
                  rw [if_pos rfl]
                  have e11 : a.tmps[106]?.getD undef = .pointer (some ⟨bl, o + k, none⟩) := ev_tmpG (show a.eval (.tmp 106) = .pointer (some ⟨bl, o + k, none⟩) from hdep 11 (by decide))
                  have hc0 : w1.cell? ⟨bl, o + k, none⟩ = some (.int .i64 z) := (hB.cell (p := ⟨bl, o + k, none⟩) HCL.out.1).trans HCL.out.2
                  go_simp
                  exact hK.out _ _ (Ext.refl _) hB rfl
                case s13 =>
                  intro a w1 hF hB hdep K hK
                  rw [if_pos rfl]
                  refine wp_load_row 46 (.tmp 12) rfl g12 hF.2.2.1 46 #[.int .i64 (z / 8), .int .i64 z, .int .i64 zq] (0, 0) _ (HK12.out.below hB) Try.underlying46 rfl (by kernel_rfl) ?_
                  exact hK.out _ _ (Ext.refl _) hB rfl
                case s14 =>
                  intro a w1 hF hB hdep K hK
                  rw [if_pos rfl]
                  have e12 : a.tmps[107]?.getD undef = .int .i64 z := ev_tmpG (show a.eval (.tmp 107) = .int .i64 z from hdep 12 (by decide))
                  have e13 : a.tmps[108]?.getD undef = .agg #[.int .i64 (z / 8), .int .i64 z, .int .i64 zq] := ev_tmpG (show a.eval (.tmp 108) = .agg #[.int .i64 (z / 8), .int .i64 z, .int .i64 zq] from hdep 13 (by decide))
                  go_simp
                  go_at_call 29
                  refine (dslot (W := w1) HSS.out (Below.refl _ _)).mono ?_
                  rintro en w2 ⟨A9, c9, rfl, ho, hB9, hb⟩
                  go_simp
                  exact hK.out _ _ (Ext.of_below hb) (hB.trans (hb.mono hB.size)) ⟨A9, c9, rfl, Rd.own_ ho, (own_cap ho).1⟩
                case s15 =>
                  intro a w1 hF hB hdep K hK
                  rw [if_pos rfl]
                  obtain ⟨A9, c9, e9, hr9, hc9⟩ : ∃ A9 c9, a.eval (.tmp 109) = .slice A9 S.length c9 ∧ Rd w1 w1.heap.size A9 S.length (bv S) ∧ S.length ≤ c9 := hdep 14 (by decide)
                  have e9 := ev_tmpG e9
                  have q := str_of (c := c9) hr9
                  go_simp
                  exact hK.out _ _ (Ext.refl _) hB rfl
                case s16 =>
                  intro a w1 hF hB hdep K hK
                  rw [if_pos rfl]
                  have f2 : a.tmps[2]?.getD undef = .slice (some ⟨bl, o, none⟩) n0 c0 := ev_tmpG hF.1
                  go_simp
                  exact hK.out _ _ (Ext.refl _) hB rfl
                case s17 =>
                  intro a w1 hF hB hdep K hK
                  rw [if_pos rfl]
                  have f11 : a.tmps[11]?.getD undef = .int .i64 (k : Int) := ev_tmpG hF.2.1
                  go_simp
                  exact hK.out _ _ (Ext.refl _) hB rfl
                case s18 =>
                  intro a w1 hF hB hdep K hK
                  rw [if_pos rfl]
                  have e16 : a.tmps[111]?.getD undef = .slice (some ⟨bl, o, none⟩) n0 c0 := ev_tmpG (show a.eval (.tmp 111) = .slice (some ⟨bl, o, none⟩) n0 c0 from hdep 16 (by decide))
                  have e17 : a.tmps[112]?.getD undef = .int .i64 (k : Int) := ev_tmpG (show a.eval (.tmp 112) = .int .i64 (k : Int) from hdep 17 (by decide))
                  have hkk := HKN.out
                  have hkk2 : (k : Int) < (n0 : Int) := by omega
                  go_simp
                  exact hK.out _ _ (Ext.refl _) hB rfl
                case s19 =>
                  intro a w1 hF hB hdep K hK
                  rw [if_pos rfl]
                  have e18 : a.tmps[113]?.getD undef = .pointer (some ⟨bl, o + k, none⟩) := ev_tmpG (show a.eval (.tmp 113) = .pointer (some ⟨bl, o + k, none⟩) from hdep 18 (by decide))
                  have hc0 : w1.cell? ⟨bl, o + k, none⟩ = some (.int .i64 z) := (hB.cell (p := ⟨bl, o + k, none⟩) HCL.out.1).trans HCL.out.2
                  go_simp
                  exact hK.out _ _ (Ext.refl _) hB rfl
                case s20 =>
                  intro a w1 hF hB hdep K hK
                  rw [if_pos rfl]
                  refine wp_load_row 46 (.tmp 12) rfl g12 hF.2.2.1 46 #[.int .i64 (z / 8), .int .i64 z, .int .i64 zq] (0, 0) _ (HK12.out.below hB) Try.underlying46 rfl (by kernel_rfl) ?_
                  exact hK.out _ _ (Ext.refl _) hB rfl
                case s21 =>
                  intro a w1 hF hB hdep K hK
                  rw [if_pos rfl]
                  have e19 : a.tmps[114]?.getD undef = .int .i64 z := ev_tmpG (show a.eval (.tmp 114) = .int .i64 z from hdep 19 (by decide))
                  have e20 : a.tmps[115]?.getD undef = .agg #[.int .i64 (z / 8), .int .i64 z, .int .i64 zq] := ev_tmpG (show a.eval (.tmp 115) = .agg #[.int .i64 (z / 8), .int .i64 z, .int .i64 zq] from hdep 20 (by decide))
                  go_simp
                  go_at_call 31
                  refine (refslot (W := w1) HSS.out (Below.refl _ _)).mono ?_
                  rintro en w2 ⟨A9, c9, rfl, ho, hB9, hb⟩
                  go_simp
                  exact hK.out _ _ (Ext.of_below hb) (hB.trans (hb.mono hB.size)) ⟨A9, c9, rfl, Rd.own_ ho, (own_cap ho).1⟩
                case s22 =>
                  intro a w1 hF hB hdep K hK
                  rw [if_pos rfl]
                  obtain ⟨A9, c9, e9, hr9, hc9⟩ : ∃ A9 c9, a.eval (.tmp 116) = .slice A9 S.length c9 ∧ Rd w1 w1.heap.size A9 S.length (bv S) ∧ S.length ≤ c9 := hdep 21 (by decide)
                  have e9 := ev_tmpG e9
                  have q := str_of (c := c9) hr9
                  go_simp
                  exact hK.out _ _ (Ext.refl _) hB rfl
                case s23 =>
                  intro a w1 hF hB hdep K hK
                  rw [if_pos rfl]
                  have e15 : a.tmps[110]?.getD undef = .string (strB S) := ev_tmpG (show a.eval (.tmp 110) = .string (strB S) from hdep 15 (by decide))
                  have e22 : a.tmps[117]?.getD undef = .string (strB S) := ev_tmpG (show a.eval (.tmp 117) = .string (strB S) from hdep 22 (by decide))
                  have q1 := strB_self S
                  go_simp
                  exact hK.out _ _ (Ext.refl _) hB rfl
                case s24 =>
                  intro a w1 hF hB hdep K hK
                  rw [if_pos rfl]
                  have e8 : a.tmps[103]?.getD undef = .bool false := ev_tmpG (show a.eval (.tmp 103) = .bool false from hdep 8 (by decide))
                  have e23 : a.tmps[118]?.getD undef = .bool false := ev_tmpG (show a.eval (.tmp 118) = .bool false from hdep 23 (by decide))
                  go_simp
                  exact hK.out _ _ (Ext.refl _) hB rfl
              case hm => kernel_rfl
              case hb => kernel_rfl
              case inj =>
                intro i j hi hj h
                have h1 : ((List.range 25).all fun i => (List.range 25).all fun j => !(dstP16 i == dstP16 j) || (i == j)) = true := by kernel_rfl
                have h2 := List.all_eq_true.1 (List.all_eq_true.1 h1 i (List.mem_range.2 hi)) j (List.mem_range.2 hj)
                simpa [h] using h2
              case dst => exact all_ops (AllFrom.cons rfl (AllFrom.cons rfl (AllFrom.cons rfl (AllFrom.cons rfl (AllFrom.cons rfl (AllFrom.cons rfl (AllFrom.cons rfl (AllFrom.cons rfl (AllFrom.cons rfl (AllFrom.cons rfl (AllFrom.cons rfl (AllFrom.cons rfl (AllFrom.cons rfl (AllFrom.cons rfl (AllFrom.cons rfl (AllFrom.cons rfl (AllFrom.cons rfl (AllFrom.cons rfl (AllFrom.cons rfl (AllFrom.cons rfl (AllFrom.cons rfl (AllFrom.cons rfl (AllFrom.cons rfl (AllFrom.cons rfl (AllFrom.cons rfl AllFrom.nil)))))))))))))))))))))))))
              case deps =>
                intro i hi j hj
                refine deps_ofG (deps := depsP16) ?_ i hi j hj
                kernel_rfl
              case want => exact all_ops (AllFrom.cons (fun U w hd => rfl) (AllFrom.cons (fun U w hd => rfl) (AllFrom.cons (fun U w hd => rfl) (AllFrom.cons (fun U w hd => rfl) (AllFrom.cons (fun U w hd => wanted_ofG rfl (yielded_ofG (s := 98) (b := false) rfl ((show _ = some (U 98) from by kernel_rfl).trans (congrArg some (show U 98 = .bool false from hd 3 (by decide))))) rfl) (AllFrom.cons (fun U w hd => wanted_ofG rfl (yielded_ofG (s := 98) (b := false) rfl ((show _ = some (U 98) from by kernel_rfl).trans (congrArg some (show U 98 = .bool false from hd 3 (by decide))))) rfl) (AllFrom.cons (fun U w hd => wanted_ofG rfl (yielded_ofG (s := 98) (b := false) rfl ((show _ = some (U 98) from by kernel_rfl).trans (congrArg some (show U 98 = .bool false from hd 3 (by decide))))) rfl) (AllFrom.cons (fun U w hd => rfl) (AllFrom.cons (fun U w hd => rfl) (AllFrom.cons (fun U w hd => wanted_ofG rfl (yielded_ofG (s := 103) (b := false) rfl ((show _ = some (U 103) from by kernel_rfl).trans (congrArg some (show U 103 = .bool false from hd 8 (by decide))))) rfl) (AllFrom.cons (fun U w hd => wanted_ofG rfl (yielded_ofG (s := 103) (b := false) rfl ((show _ = some (U 103) from by kernel_rfl).trans (congrArg some (show U 103 = .bool false from hd 8 (by decide))))) rfl) (AllFrom.cons (fun U w hd => wanted_ofG rfl (yielded_ofG (s := 103) (b := false) rfl ((show _ = some (U 103) from by kernel_rfl).trans (congrArg some (show U 103 = .bool false from hd 8 (by decide))))) rfl) (AllFrom.cons (fun U w hd => wanted_ofG rfl (yielded_ofG (s := 103) (b := false) rfl ((show _ = some (U 103) from by kernel_rfl).trans (congrArg some (show U 103 = .bool false from hd 8 (by decide))))) rfl) (AllFrom.cons (fun U w hd => wanted_ofG rfl (yielded_ofG (s := 103) (b := false) rfl ((show _ = some (U 103) from by kernel_rfl).trans (congrArg some (show U 103 = .bool false from hd 8 (by decide))))) rfl) (AllFrom.cons (fun U w hd => wanted_ofG rfl (yielded_ofG (s := 103) (b := false) rfl ((show _ = some (U 103) from by kernel_rfl).trans (congrArg some (show U 103 = .bool false from hd 8 (by decide))))) rfl) (AllFrom.cons (fun U w hd => wanted_ofG rfl (yielded_ofG (s := 103) (b := false) rfl ((show _ = some (U 103) from by kernel_rfl).trans (congrArg some (show U 103 = .bool false from hd 8 (by decide))))) rfl) (AllFrom.cons (fun U w hd => wanted_ofG rfl (yielded_ofG (s := 103) (b := false) rfl ((show _ = some (U 103) from by kernel_rfl).trans (congrArg some (show U 103 = .bool false from hd 8 (by decide))))) rfl) (AllFrom.cons (fun U w hd => wanted_ofG rfl (yielded_ofG (s := 103) (b := false) rfl ((show _ = some (U 103) from by kernel_rfl).trans (congrArg some (show U 103 = .bool false from hd 8 (by decide))))) rfl) (AllFrom.cons (fun U w hd => wanted_ofG rfl (yielded_ofG (s := 103) (b := false) rfl ((show _ = some (U 103) from by kernel_rfl).trans (congrArg some (show U 103 = .bool false from hd 8 (by decide))))) rfl) (AllFrom.cons (fun U w hd => wanted_ofG rfl (yielded_ofG (s := 103) (b := false) rfl ((show _ = some (U 103) from by kernel_rfl).trans (congrArg some (show U 103 = .bool false from hd 8 (by decide))))) rfl) (AllFrom.cons (fun U w hd => wanted_ofG rfl (yielded_ofG (s := 103) (b := false) rfl ((show _ = some (U 103) from by kernel_rfl).trans (congrArg some (show U 103 = .bool false from hd 8 (by decide))))) rfl) (AllFrom.cons (fun U w hd => wanted_ofG rfl (yielded_ofG (s := 103) (b := false) rfl ((show _ = some (U 103) from by kernel_rfl).trans (congrArg some (show U 103 = .bool false from hd 8 (by decide))))) rfl) (AllFrom.cons (fun U w hd => wanted_ofG rfl (yielded_ofG (s := 103) (b := false) rfl ((show _ = some (U 103) from by kernel_rfl).trans (congrArg some (show U 103 = .bool false from hd 8 (by decide))))) rfl) (AllFrom.cons (fun U w hd => wanted_ofG rfl (yielded_ofG (s := 103) (b := false) rfl ((show _ = some (U 103) from by kernel_rfl).trans (congrArg some (show U 103 = .bool false from hd 8 (by decide))))) rfl) (AllFrom.cons (fun U w hd => rfl) AllFrom.nil)))))))))))))))))))))))))
              case put => exact all_ops (AllFrom.cons (fun _ _ => by kernel_rfl) (AllFrom.cons (fun _ _ => by kernel_rfl) (AllFrom.cons (fun _ _ => by kernel_rfl) (AllFrom.cons (fun _ _ => by kernel_rfl) (AllFrom.cons (fun _ _ => by kernel_rfl) (AllFrom.cons (fun _ _ => by kernel_rfl) (AllFrom.cons (fun _ _ => by kernel_rfl) (AllFrom.cons (fun _ _ => by kernel_rfl) (AllFrom.cons (fun _ _ => by kernel_rfl) (AllFrom.cons (fun _ _ => by kernel_rfl) (AllFrom.cons (fun _ _ => by kernel_rfl) (AllFrom.cons (fun _ _ => by kernel_rfl) (AllFrom.cons (fun _ _ => by kernel_rfl) (AllFrom.cons (fun _ _ => by kernel_rfl) (AllFrom.cons (fun _ _ => by kernel_rfl) (AllFrom.cons (fun _ _ => by kernel_rfl) (AllFrom.cons (fun _ _ => by kernel_rfl) (AllFrom.cons (fun _ _ => by kernel_rfl) (AllFrom.cons (fun _ _ => by kernel_rfl) (AllFrom.cons (fun _ _ => by kernel_rfl) (AllFrom.cons (fun _ _ => by kernel_rfl) (AllFrom.cons (fun _ _ => by kernel_rfl) (AllFrom.cons (fun _ _ => by kernel_rfl) (AllFrom.cons (fun _ _ => by kernel_rfl) (AllFrom.cons (fun _ _ => by kernel_rfl) AllFrom.nil)))))))))))))))))))))))))
              case ev => exact all_ops (AllFrom.cons (fun _ => by kernel_rfl) (AllFrom.cons (fun _ => by kernel_rfl) (AllFrom.cons (fun _ => by kernel_rfl) (AllFrom.cons (fun _ => by kernel_rfl) (AllFrom.cons (fun _ => by kernel_rfl) (AllFrom.cons (fun _ => by kernel_rfl) (AllFrom.cons (fun _ => by kernel_rfl) (AllFrom.cons (fun _ => by kernel_rfl) (AllFrom.cons (fun _ => by kernel_rfl) (AllFrom.cons (fun _ => by kernel_rfl) (AllFrom.cons (fun _ => by kernel_rfl) (AllFrom.cons (fun _ => by kernel_rfl) (AllFrom.cons (fun _ => by kernel_rfl) (AllFrom.cons (fun _ => by kernel_rfl) (AllFrom.cons (fun _ => by kernel_rfl) (AllFrom.cons (fun _ => by kernel_rfl) (AllFrom.cons (fun _ => by kernel_rfl) (AllFrom.cons (fun _ => by kernel_rfl) (AllFrom.cons (fun _ => by kernel_rfl) (AllFrom.cons (fun _ => by kernel_rfl) (AllFrom.cons (fun _ => by kernel_rfl) (AllFrom.cons (fun _ => by kernel_rfl) (AllFrom.cons (fun _ => by kernel_rfl) (AllFrom.cons (fun _ => by kernel_rfl) (AllFrom.cons (fun _ => by kernel_rfl) AllFrom.nil)))))))))))))))))))))))))
              case fr => exact fun U => ⟨by kernel_rfl, by kernel_rfl, by kernel_rfl, by kernel_rfl, by kernel_rfl, by kernel_rfl, by kernel_rfl⟩
              case done =>
                intro U w' hB hV
                have e1 : U 119 = .bool false := hV 24 (by decide)
                unfold frameP16
                rw [e1]
                have HB9 := Lib.hid hB
                clear hV e1 hB
                go_wp2_with fail
                go_meet
                exact ⟨rfl, HB9⟩
            case rest =>
              obtain ⟨rfl, HBx⟩ := hcut
              rename World => wx
              have hbx := HBx.out
              have HK9 := Lib.hid (HK9.out.below hbx)
              have HK10 := Lib.hid (HK10.out.below hbx)
              have HK12 := Lib.hid (HK12.out.below hbx)
              have HR1 := Lib.hid (HR1.out.below hbx)
              have HR2 := Lib.hid (HR2.out.below hbx)
              have HB14 := Lib.hid (HB14.out.trans (hbx.mono HB14.out.size))
              clear hbx HBx HK14 HK16 HSS HCL
              obtain ⟨w15, hw15⟩ : ∃ q, wx = q := ⟨_, rfl⟩
              subst hw15
              rename World => w14
              obtain ⟨ab, hab⟩ : ∃ q, Dk.write a b (z / 8) z zq cut = q := ⟨_, rfl⟩
              obtain ⟨a', b'⟩ := ab
              have HW1 := Lib.hid hab
              clear hab
              go_upto_region 18 with fail
              go_cut [] from 120 to 127 (fun wx => ∃ (A5 B5 A6 B6 : Option Addr) (c5 d5 n6 c6 m6 d6 : Nat), Hid (Blk wx g9 44 #[.slice A5 a'.length c5, .slice B5 b'.length d5]) ∧ Hid (Blk wx g10 44 #[.slice A6 n6 c6, .slice B6 m6 d6]) ∧ Hid (Blk wx g12 46 #[.int .i64 (z / 8), .int .i64 z, .int .i64 zq]) ∧ Hid (RdD wx A5 B5 a'.length c5 b'.length d5 a' b') ∧ Hid (RdD wx A6 B6 n6 c6 m6 d6 a' b') ∧ Hid (Below w.heap.size w wx))
              case first =>
                refine region_J2 (U0 := fun i => ([u120, u121, u122, u123, u124, u125, u126, u127] : List Value).getD (i - 120) undef) (frameP18 bl o n0 c0 k g9 g10 g12 cut _ _ _ _ _ _ _ _ _ _ _ _ _ _ _ _ _ _ _ _ _ _ _ _ _ _ _ _ _ _ _ _ _ _ _ _ _ _ _ _ _ _ _ _ _ _ _ _ _ _ _ _ _ _ _ _ _ _ _ _ _ _ _ _ _ _ _ _ _ _ _ _ _ _ _ _ _ _ _ _ _ _ _ _ _ _ _ _ _ _ _ _ _ _ _ _ _ _ _ _ _ _ _ _ _ _ _ _ _ _ _ _ _ _ _ _ _ _ _ _ _ _ _ _ _ _ _ _ _ _ _ _ _ _ _ _ _ _ _ _) dstP18 depsP18 (FrP18 g9 g10 g12 cut) (JP w w14 g9 g10 g12 #[.slice A n c, .slice A2 n2 c2] #[.slice B m d, .slice B2 m2 d2] #[.int .i64 (z / 8), .int .i64 z, .int .i64 zq] cut a' b') (by kernel_rfl) (by kernel_rfl) ?dst ?deps ?put ?ev ?fr ?h0 ?hok ?done
                case dst => exact all_ops (AllFrom.cons rfl (AllFrom.cons rfl (AllFrom.cons rfl (AllFrom.cons rfl (AllFrom.cons rfl (AllFrom.cons rfl (AllFrom.cons rfl (AllFrom.cons rfl (AllFrom.cons rfl (AllFrom.cons rfl AllFrom.nil))))))))))
                case deps =>
                  intro i hi j hj
                  refine deps_ofG (deps := depsP18) ?_ i hi j hj
                  kernel_rfl
                case put => exact all_ops (AllFrom.cons (fun U v => rfl) (AllFrom.cons (fun U v => rfl) (AllFrom.cons (fun U v => rfl) (AllFrom.cons (fun U v => rfl) (AllFrom.cons (fun U v => rfl) (AllFrom.cons (fun U v => rfl) (AllFrom.cons (fun U v => rfl) (AllFrom.cons (fun U v => rfl) (AllFrom.cons (fun U v => rfl) (AllFrom.cons (fun U v => rfl) AllFrom.nil))))))))))
                case ev =>
                  intro j d h U
                  match j, h with
                  | 0, h => obtain rfl : 120 = d := Option.some.inj h; exact (show (frameP18 bl o n0 c0 k g9 g10 g12 cut _ _ _ _ _ _ _ _ _ _ _ _ _ _ _ _ _ _ _ _ _ _ _ _ _ _ _ _ _ _ _ _ _ _ _ _ _ _ _ _ _ _ _ _ _ _ _ _ _ _ _ _ _ _ _ _ _ _ _ _ _ _ _ _ _ _ _ _ _ _ _ _ _ _ _ _ _ _ _ _ _ _ _ _ _ _ _ _ _ _ _ _ _ _ _ _ _ _ _ _ _ _ _ _ _ _ _ _ _ _ _ _ _ _ _ _ _ _ _ _ _ _ _ _ _ _ _ _ _ _ _ _ _ _ _ _ _ _ _ _ U).eval (.tmp 120) = U 120 from by kernel_rfl)
                  | 1, h => obtain rfl : 121 = d := Option.some.inj h; exact (show (frameP18 bl o n0 c0 k g9 g10 g12 cut _ _ _ _ _ _ _ _ _ _ _ _ _ _ _ _ _ _ _ _ _ _ _ _ _ _ _ _ _ _ _ _ _ _ _ _ _ _ _ _ _ _ _ _ _ _ _ _ _ _ _ _ _ _ _ _ _ _ _ _ _ _ _ _ _ _ _ _ _ _ _ _ _ _ _ _ _ _ _ _ _ _ _ _ _ _ _ _ _ _ _ _ _ _ _ _ _ _ _ _ _ _ _ _ _ _ _ _ _ _ _ _ _ _ _ _ _ _ _ _ _ _ _ _ _ _ _ _ _ _ _ _ _ _ _ _ _ _ _ _ U).eval (.tmp 121) = U 121 from by kernel_rfl)
                  | 2, h => obtain rfl : 122 = d := Option.some.inj h; exact (show (frameP18 bl o n0 c0 k g9 g10 g12 cut _ _ _ _ _ _ _ _ _ _ _ _ _ _ _ _ _ _ _ _ _ _ _ _ _ _ _ _ _ _ _ _ _ _ _ _ _ _ _ _ _ _ _ _ _ _ _ _ _ _ _ _ _ _ _ _ _ _ _ _ _ _ _ _ _ _ _ _ _ _ _ _ _ _ _ _ _ _ _ _ _ _ _ _ _ _ _ _ _ _ _ _ _ _ _ _ _ _ _ _ _ _ _ _ _ _ _ _ _ _ _ _ _ _ _ _ _ _ _ _ _ _ _ _ _ _ _ _ _ _ _ _ _ _ _ _ _ _ _ _ U).eval (.tmp 122) = U 122 from by kernel_rfl)
                  | 3, h => obtain rfl : 123 = d := Option.some.inj h; exact (show (frameP18 bl o n0 c0 k g9 g10 g12 cut _ _ _ _ _ _ _ _ _ _ _ _ _ _ _ _ _ _ _ _ _ _ _ _ _ _ _ _ _ _ _ _ _ _ _ _ _ _ _ _ _ _ _ _ _ _ _ _ _ _ _ _ _ _ _ _ _ _ _ _ _ _ _ _ _ _ _ _ _ _ _ _ _ _ _ _ _ _ _ _ _ _ _ _ _ _ _ _ _ _ _ _ _ _ _ _ _ _ _ _ _ _ _ _ _ _ _ _ _ _ _ _ _ _ _ _ _ _ _ _ _ _ _ _ _ _ _ _ _ _ _ _ _ _ _ _ _ _ _ _ U).eval (.tmp 123) = U 123 from by kernel_rfl)
                  | 4, h => obtain rfl : 124 = d := Option.some.inj h; exact (show (frameP18 bl o n0 c0 k g9 g10 g12 cut _ _ _ _ _ _ _ _ _ _ _ _ _ _ _ _ _ _ _ _ _ _ _ _ _ _ _ _ _ _ _ _ _ _ _ _ _ _ _ _ _ _ _ _ _ _ _ _ _ _ _ _ _ _ _ _ _ _ _ _ _ _ _ _ _ _ _ _ _ _ _ _ _ _ _ _ _ _ _ _ _ _ _ _ _ _ _ _ _ _ _ _ _ _ _ _ _ _ _ _ _ _ _ _ _ _ _ _ _ _ _ _ _ _ _ _ _ _ _ _ _ _ _ _ _ _ _ _ _ _ _ _ _ _ _ _ _ _ _ _ U).eval (.tmp 124) = U 124 from by kernel_rfl)
                  | 5, h => obtain rfl : 125 = d := Option.some.inj h; exact (show (frameP18 bl o n0 c0 k g9 g10 g12 cut _ _ _ _ _ _ _ _ _ _ _ _ _ _ _ _ _ _ _ _ _ _ _ _ _ _ _ _ _ _ _ _ _ _ _ _ _ _ _ _ _ _ _ _ _ _ _ _ _ _ _ _ _ _ _ _ _ _ _ _ _ _ _ _ _ _ _ _ _ _ _ _ _ _ _ _ _ _ _ _ _ _ _ _ _ _ _ _ _ _ _ _ _ _ _ _ _ _ _ _ _ _ _ _ _ _ _ _ _ _ _ _ _ _ _ _ _ _ _ _ _ _ _ _ _ _ _ _ _ _ _ _ _ _ _ _ _ _ _ _ U).eval (.tmp 125) = U 125 from by kernel_rfl)
                  | 6, h => obtain rfl : 126 = d := Option.some.inj h; exact (show (frameP18 bl o n0 c0 k g9 g10 g12 cut _ _ _ _ _ _ _ _ _ _ _ _ _ _ _ _ _ _ _ _ _ _ _ _ _ _ _ _ _ _ _ _ _ _ _ _ _ _ _ _ _ _ _ _ _ _ _ _ _ _ _ _ _ _ _ _ _ _ _ _ _ _ _ _ _ _ _ _ _ _ _ _ _ _ _ _ _ _ _ _ _ _ _ _ _ _ _ _ _ _ _ _ _ _ _ _ _ _ _ _ _ _ _ _ _ _ _ _ _ _ _ _ _ _ _ _ _ _ _ _ _ _ _ _ _ _ _ _ _ _ _ _ _ _ _ _ _ _ _ _ U).eval (.tmp 126) = U 126 from by kernel_rfl)
                  | 7, h => obtain rfl : 127 = d := Option.some.inj h; exact (show (frameP18 bl o n0 c0 k g9 g10 g12 cut _ _ _ _ _ _ _ _ _ _ _ _ _ _ _ _ _ _ _ _ _ _ _ _ _ _ _ _ _ _ _ _ _ _ _ _ _ _ _ _ _ _ _ _ _ _ _ _ _ _ _ _ _ _ _ _ _ _ _ _ _ _ _ _ _ _ _ _ _ _ _ _ _ _ _ _ _ _ _ _ _ _ _ _ _ _ _ _ _ _ _ _ _ _ _ _ _ _ _ _ _ _ _ _ _ _ _ _ _ _ _ _ _ _ _ _ _ _ _ _ _ _ _ _ _ _ _ _ _ _ _ _ _ _ _ _ _ _ _ _ U).eval (.tmp 127) = U 127 from by kernel_rfl)
                  | 8, h => cases h
                  | 9, h => cases h
                  | j + 10, h => cases h
                case fr => exact fun U => ⟨by kernel_rfl, by kernel_rfl, by kernel_rfl, by kernel_rfl⟩
                case h0 =>
                  exact ⟨fun _ => ⟨rfl, rfl, rfl, Nat.le_refl _, fun _ _ => rfl⟩, fun i _ h => (by cases h), fun h => (by cases h), fun h => (by cases h), fun h => (by cases h), fun h => (by cases h), fun h => (by cases h), fun h => (by cases h)⟩
                case hok =>
                  refine all_ops (AllFrom.cons ?s0 (AllFrom.cons ?s1 (AllFrom.cons ?s2 (AllFrom.cons ?s3 (AllFrom.cons ?s4 (AllFrom.cons ?s5 (AllFrom.cons ?s6 (AllFrom.cons ?s7 (AllFrom.cons ?s8 (AllFrom.cons ?s9 AllFrom.nil))))))))))
                  case s0 =>
                    intro ac L U w1 hF hev hJ hn hl K hK
                    obtain ⟨n8, n9⟩ := hJ.early (i := 0) (by decide) hn
                    have hB := hJ.bel n8
                    refine wp_load_row 44 (.tmp 9) rfl g9 hF.1 44 #[.slice A n c, .slice A2 n2 c2] (0, 0) _ (HK9.out.below hB) Try.underlying44 rfl (by kernel_rfl) ?_
                    exact hK.out _ _ (hJ.step (i := 0) (by decide) rfl hn (fun h => by cases h) (fun h => by cases h) (Below.refl _ _) rfl)
                  case s1 =>
                    intro ac L U w1 hF hev hJ hn hl K hK
                    obtain ⟨n8, n9⟩ := hJ.early (i := 1) (by decide) hn
                    have hB := hJ.bel n8
                    refine wp_load_row 46 (.tmp 12) rfl g12 hF.2.2.1 46 #[.int .i64 (z / 8), .int .i64 z, .int .i64 zq] (0, 0) _ (HK12.out.below hB) Try.underlying46 rfl (by kernel_rfl) ?_
                    exact hK.out _ _ (hJ.step (i := 1) (by decide) rfl hn (fun h => by cases h) (fun h => by cases h) (Below.refl _ _) rfl)
                  case s2 =>
                    intro ac L U w1 hF hev hJ hn hl K hK
                    obtain ⟨n8, n9⟩ := hJ.early (i := 2) (by decide) hn
                    have hB := hJ.bel n8
                    have e13 := ev_tmpG hF.2.2.2
                    go_simp
                    exact hK.out _ _ (hJ.step (i := 2) (by decide) rfl hn (fun h => by cases h) (fun h => by cases h) (Below.refl _ _) rfl)
                  case s3 =>
                    intro ac L U w1 hF hev hJ hn hl K hK
                    obtain ⟨n8, n9⟩ := hJ.early (i := 3) (by decide) hn
                    have hB := hJ.bel n8
                    have e120 := ev_tmpG ((hev 0 (by decide) 120 rfl).trans (show U 120 = .agg #[.slice A n c, .slice A2 n2 c2] from hJ.val 0 (by decide) (hl 0 (by decide))))
                    have e121 := ev_tmpG ((hev 1 (by decide) 121 rfl).trans (show U 121 = .agg #[.int .i64 (z / 8), .int .i64 z, .int .i64 zq] from hJ.val 1 (by decide) (hl 1 (by decide))))
                    have e122 := ev_tmpG ((hev 2 (by decide) 122 rfl).trans (show U 122 = .int .i64 cut from hJ.val 2 (by decide) (hl 2 (by decide))))
                    have HC := Lib.hid (dwriteD (W := w14) HW1.out (HR1.out.below hB) hB)
                    go_simp
                    go_at_call 26
                    refine HC.out.mono ?_
                    rintro en w2 ⟨A9, c9, B9, d9, rfl, ho, hB9, hb⟩
                    go_simp
                    exact hK.out _ _ (hJ.step (i := 3) (by decide) rfl hn (fun _ => ⟨hl 0 (by decide), hl 1 (by decide), hl 2 (by decide)⟩) (fun h => by cases h) hb ⟨A9, c9, B9, d9, rfl, ho⟩)
                  case s4 =>
                    intro ac L U w1 hF hev hJ hn hl K hK
                    obtain ⟨n8, n9⟩ := hJ.early (i := 4) (by decide) hn
                    have hB := hJ.bel n8
                    refine wp_load_row 44 (.tmp 10) rfl g10 hF.2.1 44 #[.slice B m d, .slice B2 m2 d2] (0, 0) _ (HK10.out.below hB) Try.underlying44 rfl (by kernel_rfl) ?_
                    exact hK.out _ _ (hJ.step (i := 4) (by decide) rfl hn (fun h => by cases h) (fun h => by cases h) (Below.refl _ _) rfl)
                  case s5 =>
                    intro ac L U w1 hF hev hJ hn hl K hK
                    obtain ⟨n8, n9⟩ := hJ.early (i := 5) (by decide) hn
                    have hB := hJ.bel n8
                    refine wp_load_row 46 (.tmp 12) rfl g12 hF.2.2.1 46 #[.int .i64 (z / 8), .int .i64 z, .int .i64 zq] (0, 0) _ (HK12.out.below hB) Try.underlying46 rfl (by kernel_rfl) ?_
                    exact hK.out _ _ (hJ.step (i := 5) (by decide) rfl hn (fun h => by cases h) (fun h => by cases h) (Below.refl _ _) rfl)
                  case s6 =>
                    intro ac L U w1 hF hev hJ hn hl K hK
                    obtain ⟨n8, n9⟩ := hJ.early (i := 6) (by decide) hn
                    have hB := hJ.bel n8
                    have e13 := ev_tmpG hF.2.2.2
                    go_simp
                    exact hK.out _ _ (hJ.step (i := 6) (by decide) rfl hn (fun h => by cases h) (fun h => by cases h) (Below.refl _ _) rfl)
                  case s7 =>
                    intro ac L U w1 hF hev hJ hn hl K hK
                    obtain ⟨n8, n9⟩ := hJ.early (i := 7) (by decide) hn
                    have hB := hJ.bel n8
                    have e124 := ev_tmpG ((hev 4 (by decide) 124 rfl).trans (show U 124 = .agg #[.slice B m d, .slice B2 m2 d2] from hJ.val 4 (by decide) (hl 4 (by decide))))
                    have e125 := ev_tmpG ((hev 5 (by decide) 125 rfl).trans (show U 125 = .agg #[.int .i64 (z / 8), .int .i64 z, .int .i64 zq] from hJ.val 5 (by decide) (hl 5 (by decide))))
                    have e126 := ev_tmpG ((hev 6 (by decide) 126 rfl).trans (show U 126 = .int .i64 cut from hJ.val 6 (by decide) (hl 6 (by decide))))
                    have HC := Lib.hid (refwrite (W := w14) HW1.out (HR2.out.below hB) hB)
                    go_simp
                    go_at_call 32
                    refine HC.out.mono ?_
                    rintro en w2 ⟨A9, n9, c9, B9, m9, d9, rfl, ho, hB9, hb⟩
                    go_simp
                    exact hK.out _ _ (hJ.step (i := 7) (by decide) rfl hn (fun h => by cases h) (fun _ => ⟨hl 3 (by decide), hl 4 (by decide), hl 5 (by decide), hl 6 (by decide)⟩) hb ⟨A9, n9, c9, B9, m9, d9, rfl, ho⟩)
                  case s8 =>
                    intro ac L U w1 hF hev hJ hn hl K hK
                    have h7 := hl 7 (by decide)
                    have hB := hJ.bel hn
                    obtain ⟨A5, c5, B5, d5, e123, ho5⟩ := (show VP18 w14 #[.slice A n c, .slice A2 n2 c2] #[.slice B m d, .slice B2 m2 d2] #[.int .i64 (z / 8), .int .i64 z, .int .i64 zq] cut a' b' 3 (U 123) w1 from hJ.val 3 (by decide) (hl 3 (by decide)))
                    have hk9 := HK9.out.below hB
                    refine wp_store_row 44 (.tmp 9) (.tmp 123) rfl g9 #[.slice A5 a'.length c5, .slice B5 b'.length d5] hF.1 ((hev 3 (by decide) 123 rfl).trans e123) 44 #[.slice A n c, .slice A2 n2 c2] hk9 (by kernel_rfl) rfl (by kernel_rfl) ?_
                    exact hK.out _ _ (hJ.put8 h7 hn e123 rfl hk9 (HK10.out.below hB) (HK12.out.below hB) HNE.out HB14.out HG9.out)
                  case s9 =>
                    intro ac L U w1 hF hev hJ hn hl K hK
                    have h8 := hl 8 (by decide)
                    obtain ⟨A6, n6, c6, B6, m6, d6, e127, ho6⟩ := (show VP18 w14 #[.slice A n c, .slice A2 n2 c2] #[.slice B m d, .slice B2 m2 d2] #[.int .i64 (z / 8), .int .i64 z, .int .i64 zq] cut a' b' 7 (U 127) w1 from hJ.val 7 (by decide) (hl 7 (by decide)))
                    have hk10 := (hJ.st h8).2.2.2 hn
                    refine wp_store_row 44 (.tmp 10) (.tmp 127) rfl g10 #[.slice A6 n6 c6, .slice B6 m6 d6] hF.2.1 ((hev 7 (by decide) 127 rfl).trans e127) 44 #[.slice B m d, .slice B2 m2 d2] hk10 (by kernel_rfl) rfl (by kernel_rfl) ?_
                    exact hK.out _ _ (hJ.put9 h8 hn e127 rfl HNE.out HG10.out)
                case done =>
                  intro L U w3 hall hJ
                  obtain ⟨A5, c5, B5, d5, e123, ho5⟩ := (show VP18 w14 #[.slice A n c, .slice A2 n2 c2] #[.slice B m d, .slice B2 m2 d2] #[.int .i64 (z / 8), .int .i64 z, .int .i64 zq] cut a' b' 3 (U 123) w3 from hJ.val 3 (by decide) (hall 3 (by decide)))
                  obtain ⟨A6, n6, c6, B6, m6, d6, e127, ho6⟩ := (show VP18 w14 #[.slice A n c, .slice A2 n2 c2] #[.slice B m d, .slice B2 m2 d2] #[.int .i64 (z / 8), .int .i64 z, .int .i64 zq] cut a' b' 7 (U 127) w3 from hJ.val 7 (by decide) (hall 7 (by decide)))
                  obtain ⟨k1, ⟨cs, k2, k3⟩, k4, _⟩ := hJ.st (hall 8 (by decide))
                  obtain ⟨cs2, k5, k6⟩ := hJ.fin (hall 9 (by decide))
                  rw [e123] at k2
                  rw [e127] at k5
                  injection k2 with k2
                  injection k5 with k5
                  subst k2
                  subst k5
                  have j9 := Lib.hid k3
                  have j10 := Lib.hid k6
                  have j12 := Lib.hid k4
                  have HRX := Lib.hid ho5.rd
                  have HRY := Lib.hid ho6
                  have HBX := Lib.hid k1
                  clear hall hJ k1 k3 k4 k6 ho5 ho6
                  unfold frameP18
                  go_simp
                  go_wp2_with fail
                  go_meet
                  exact ⟨A5, B5, A6, B6, c5, d5, n6, c6, m6, d6, j9, j10, j12, HRX, HRY, HBX⟩
              case rest =>
                obtain ⟨A5, B5, A6, B6, c5, d5, n6, c6, m6, d6, HK9, HK10, HK12, HRX, HRY, HBX⟩ := hcut
                rename World => w18
                go_wp2_with (first
                  | (refine wpList_load_row rfl  44 (.tmp 9) rfl g9 rfl 44 #[.slice A5 a'.length c5, .slice B5 b'.length d5] (0, 0) _ HK9.out Try.underlying44 rfl (by kernel_rfl) ?_)
                  | (refine wpList_load_row rfl  44 (.tmp 10) rfl g10 rfl 44 #[.slice A6 n6 c6, .slice B6 m6 d6] (0, 0) _ HK10.out Try.underlying44 rfl (by kernel_rfl) ?_)
                  | (go_at_call 33; refine (refsame HRX.out HRY.out).mono ?_; rintro en w19 ⟨rfl, hb⟩; have HB19 := Lib.hid hb; clear hb)
                  | fail)
                go_roundw
                case rel => exact ⟨k + 1, a', b', A5, B5, A6, B6, _, _, _, _, _, _, _, _, by omega, by go_num, Lib.hid (HK9.out.below HB19.out), Lib.hid (HK10.out.below HB19.out), Lib.hid (HRX.out.below HB19.out), Lib.hid (HRY.out.below HB19.out), Lib.hid (HBX.out.trans (HB19.out.mono HBX.out.size))⟩
                case measure => simp [intOf]; omega
        · have hx : ¬ k < n0 ∨ (k < n0 ∧ ¬ k < m0) ∨ (k < n0 ∧ k < m0 ∧ ¬ k < 20) := by omega
          clear hlt
          rcases hx with h1 | ⟨h1, h2⟩ | ⟨h1, h2, h3⟩
          all_goals
            go_upto_region 22 with (first
              | (refine wpList_load_row rfl  44 (.tmp 9) rfl g9 rfl 44 #[.slice A n c, .slice A2 n2 c2] (0, 0) _ HK9.out Try.underlying44 rfl (by kernel_rfl) ?_)
              | (go_at_call 27; refine (dreadD (W := w) HRR.out HR1.out HB.out).mono ?_; rintro en w6 ⟨he, hB, hb⟩
                 have he2 : en = .returned (.tuple #[.agg #[.int .i64 r0, .int .i64 r1, .int .i64 r2], .bool s]) := by rw [he, HR012.out, HSS0.out]
                 clear he
                 subst he2
                 have HB6 := Lib.hid hB
                 have HBB := Lib.hid hb
                 clear hB hb)
              | (refine wpList_store_row rfl 46 (.tmp 18) (.tmp 135) rfl w6.heap.size #[.int .i64 r0, .int .i64 r1, .int .i64 r2] rfl rfl 46 #[.int .i64 0, .int .i64 0, .int .i64 0] (Blk.new w6 46 #[.int .i64 0, .int .i64 0, .int .i64 0]) (by kernel_rfl) rfl (by kernel_rfl) ?_)
              | fail)
            obtain ⟨g18, w7, hgE, hwE, hbE, hkE⟩ := boxed w6 #[.int .i64 0, .int .i64 0, .int .i64 0] #[.int .i64 r0, .int .i64 r1, .int .i64 r2] 46
            rw [hgE, hwE]
            have HBc := Lib.hid hbE
            have HK18 := Lib.hid hkE
            clear hgE hwE hbE hkE
            have hb7 : Below wr.heap.size wr w7 := HBB.out.trans (HBc.out.mono HBB.out.size)
            have HK10 := Lib.hid (HK10.out.below hb7)
            have HR2 := Lib.hid (HR2.out.below hb7)
            have HB7 := Lib.hid (HB6.out.trans (HBc.out.mono HB6.out.size))
            clear hb7 HBB HBc HB6
            go_upto_region 23 with (first
              | (refine wpList_load_row rfl  44 (.tmp 10) rfl g10 rfl 44 #[.slice B m d, .slice B2 m2 d2] (0, 0) _ HK10.out Try.underlying44 rfl (by kernel_rfl) ?_)
              | (go_at_call 30; refine (refread (W := w) HRR.out HR2.out HB7.out).mono ?_; rintro en w8 ⟨he, hB, hb⟩
                 have he2 : en = .returned (.tuple #[.agg #[.int .i64 r0, .int .i64 r1, .int .i64 r2], .bool s]) := by rw [he, HR012.out, HSS0.out]
                 clear he
                 subst he2
                 have HB8 := Lib.hid hB
                 have HBB := Lib.hid hb
                 clear hB hb)
              | (refine wpList_store_row rfl 46 (.tmp 20) (.tmp 140) rfl w8.heap.size #[.int .i64 r0, .int .i64 r1, .int .i64 r2] rfl rfl 46 #[.int .i64 0, .int .i64 0, .int .i64 0] (Blk.new w8 46 #[.int .i64 0, .int .i64 0, .int .i64 0]) (by kernel_rfl) rfl (by kernel_rfl) ?_)
              | fail)
            obtain ⟨g20, w9, hgE, hwE, hbE, hkE⟩ := boxed w8 #[.int .i64 0, .int .i64 0, .int .i64 0] #[.int .i64 r0, .int .i64 r1, .int .i64 r2] 46
            rw [hgE, hwE]
            have HBc := Lib.hid hbE
            have HK20 := Lib.hid hkE
            clear hgE hwE hbE hkE
            have hb7 : Below w7.heap.size w7 w9 := HBB.out.trans (HBc.out.mono HBB.out.size)
            have HK18 := Lib.hid (HK18.out.below hb7)
            have HB9 := Lib.hid (HB8.out.trans (HBc.out.mono HB8.out.size))
            clear hb7 HBB HBc HB8 HB7
            go_wp2_with (first
              | (refine wpList_load_row rfl  46 (.tmp 18) rfl g18 rfl 46 #[.int .i64 r0, .int .i64 r1, .int .i64 r2] (0, 0) _ HK18.out Try.underlying46 rfl (by kernel_rfl) ?_)
              | (refine wpList_load_row rfl  46 (.tmp 20) rfl g20 rfl 46 #[.int .i64 r0, .int .i64 r1, .int .i64 r2] (0, 0) _ HK20.out Try.underlying46 rfl (by kernel_rfl) ?_)
              | (go_at_call 28; refine (diskAwake _).mono ?_; rintro e wq ⟨rfl, hBq⟩; have HBq := Lib.hid (HB9.out.trans (hBq.mono HB9.out.size)); clear hBq)
              | fail)
            go_ret
            exact ⟨rfl, HBq.out⟩
theorem diskPlays_walk (A0 A0b : Option Addr) (c0 c0b : Nat) (x0 y0 : List Nat) (a1 : Bool) (a2 : Option Addr) (len2 cap2 : Nat) (z2 : List Int) (a3 : Option Addr) (len3 cap3 : Nat) (z3 : List Int) (w : World) (w0 : IsDisk w A0 A0b c0 c0b x0 y0) (b0 : x0.length ≤ 1048576 ∧ y0.length ≤ 1048576) (w2 : IsRow .i64 w a2 len2 cap2 z2) (w3 : IsRow .i64 w a3 len3 cap3 z3) : Calls Try.prog 11 #[.agg #[.slice A0 x0.length c0, .slice A0b y0.length c0b], .bool a1, .slice a2 len2 cap2, .slice a3 len3 cap3] w fun e w' => e = .returned (.bool true) ∧ Below w.heap.size w w' := by
  have h2 := w2.ints
  have h3 := w3.ints
  exact diskPlays_raw w a1 ⟨w0.a, w0.b, w0.ca, w0.cb, ⟨w0.fa, by omega⟩, ⟨w0.fb, by omega⟩⟩ h2.1 h3.1
end Go.Proofs.Ytlfkgpllleogoaa

