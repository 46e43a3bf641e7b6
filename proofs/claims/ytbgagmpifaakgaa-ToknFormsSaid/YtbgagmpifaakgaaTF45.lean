/- ToknFormsWalk -/
import Derived.Test.YtbgagmpifaakgaaTF44
import Derived.Deep.CutBlock
import Derived.Deep.DeepCutAuto
namespace Go.Proofs.Ytbgagmpifaakgaa
open Go.RowKit
set_option linter.unusedVariables false
/-- what the last region reads -/
structure FsT (w y : World) (gx g6 ch cn c1 c2 c3 c4 c5 c9 : Nat) (Ah An A1 A2 A3 A4 A5 A9 : Option Addr) (au : GA) (r : FT) : Prop where
  k5 : Blk y gx 31 (List.toArray (.int .i64 7 :: .int .i64 0 :: .int .i64 0 :: .int .i64 8 :: .int .i64 0 :: .int .i64 0 :: .bool false :: .int .i64 0 :: .int .i64 0 :: .int .i64 0 :: .int .i64 0 :: .slice none 0 0 :: .int .i64 3 :: .int .i64 r.s0 :: .slice Ah r.hv.length ch :: .slice An r.nv.length cn :: .int .i64 0 :: .int .i64 0 :: .int .i64 0 :: .int .i64 0 :: .int .i64 0 :: .slice none 0 0 :: .slice none 0 0 :: .slice none 0 0 :: .int .i64 r.place :: .int .i64 r.whole :: .int .i64 r.fresh :: .slice A1 r.has.length c1 :: .slice A2 r.mis.length c2 :: .int .i64 r.seq :: .int .i64 r.safe :: .int .i64 r.room :: .slice A3 r.have_.length c3 :: .slice A4 r.need.length c4 :: .slice A5 r.again.length c5 :: []))
  k6 : Blk y g6 29 #[.int .i64 7, .int .i64 1, .int .i64 2, .int .i64 8, .int .i64 0, .int .i64 0, .bool false, .int .i64 0, .int .i64 0, .int .i64 0, .int .i64 0, .slice au.Ad 0 au.cd, .int .i64 4, .int .i64 r.seq, .slice au.Ah r.have_.length au.ch, .slice au.An r.need.length au.cn, .int .i64 0, .int .i64 0, .int .i64 0, .int .i64 0, .int .i64 0, .slice au.c.Ak 0 au.c.ck, .slice au.c.Av 0 au.c.cv, .slice au.c.Ao 0 au.c.co]
  bel : Below w.heap.size w y
theorem range24a {y w1 : World} {g : Nat} {t : TypeId} {v0 v1 v2 v3 v4 v5 v6 v7 v8 v9 v10 v11 v12 v13 v14 v15 v16 v17 v18 v19 v20 v21 v22 v23 : Value} (h : Blk y g t #[v0, v1, v2, v3, v4, v5, v6, v7, v8, v9, v10, v11, v12, v13, v14, v15, v16, v17, v18, v19, v20, v21, v22, v23]) (hb : Below y.heap.size y w1) : w1.rangeAt g 0 [v0, v1, v2, v3, v4, v5, v6, v7, v8, v9, v10, v11, v12, v13, v14, v15, v16, v17, v18, v19, v20, v21, v22, v23] := by
  have := World.rangeAt_of_block (h.below hb) 0 24
  simpa using this
theorem range24b {y w1 : World} {g : Nat} {t : TypeId} {v0 v1 v2 v3 v4 v5 v6 v7 v8 v9 v10 v11 v12 v13 v14 v15 v16 v17 v18 v19 v20 v21 v22 v23 u0 u1 u2 u3 u4 u5 u6 u7 u8 u9 u10 : Value} (h : Blk y g t (List.toArray (v0 :: v1 :: v2 :: v3 :: v4 :: v5 :: v6 :: v7 :: v8 :: v9 :: v10 :: v11 :: v12 :: v13 :: v14 :: v15 :: v16 :: v17 :: v18 :: v19 :: v20 :: v21 :: v22 :: v23 :: u0 :: u1 :: u2 :: u3 :: u4 :: u5 :: u6 :: u7 :: u8 :: u9 :: u10 :: []))) (hb : Below y.heap.size y w1) : w1.rangeAt g 0 [v0, v1, v2, v3, v4, v5, v6, v7, v8, v9, v10, v11, v12, v13, v14, v15, v16, v17, v18, v19, v20, v21, v22, v23] := by
  have := World.rangeAt_of_block (h.below hb) 0 24
  simpa using this
theorem FsT.r6 {w y w1 : World} {gx g6 ch cn c1 c2 c3 c4 c5 c9 : Nat} {Ah An A1 A2 A3 A4 A5 A9 : Option Addr} {au : GA} {r : FT} (h : FsT w y gx g6 ch cn c1 c2 c3 c4 c5 c9 Ah An A1 A2 A3 A4 A5 A9 au r) (hb : Below y.heap.size y w1) : w1.rangeAt g6 0 [.int .i64 7, .int .i64 1, .int .i64 2, .int .i64 8, .int .i64 0, .int .i64 0, .bool false, .int .i64 0, .int .i64 0, .int .i64 0, .int .i64 0, .slice au.Ad 0 au.cd, .int .i64 4, .int .i64 r.seq, .slice au.Ah r.have_.length au.ch, .slice au.An r.need.length au.cn, .int .i64 0, .int .i64 0, .int .i64 0, .int .i64 0, .int .i64 0, .slice au.c.Ak 0 au.c.ck, .slice au.c.Av 0 au.c.cv, .slice au.c.Ao 0 au.c.co] := range24a h.k6 hb
theorem FsT.r5 {w y w1 : World} {gx g6 ch cn c1 c2 c3 c4 c5 c9 : Nat} {Ah An A1 A2 A3 A4 A5 A9 : Option Addr} {au : GA} {r : FT} (h : FsT w y gx g6 ch cn c1 c2 c3 c4 c5 c9 Ah An A1 A2 A3 A4 A5 A9 au r) (hb : Below y.heap.size y w1) : w1.rangeAt gx 0 [.int .i64 7, .int .i64 0, .int .i64 0, .int .i64 8, .int .i64 0, .int .i64 0, .bool false, .int .i64 0, .int .i64 0, .int .i64 0, .int .i64 0, .slice none 0 0, .int .i64 3, .int .i64 r.s0, .slice Ah r.hv.length ch, .slice An r.nv.length cn, .int .i64 0, .int .i64 0, .int .i64 0, .int .i64 0, .int .i64 0, .slice none 0 0, .slice none 0 0, .slice none 0 0] := range24b h.k5 hb
theorem same17 {y w1 : World} {A A' : Option Addr} {n c n' c' : Nat} {l : List Int} (h : Rd y y.heap.size A n (iv l)) (h' : Rd y y.heap.size A' n' (iv l)) (hn : n ≤ 8) (hn' : n' ≤ 8) (hb : Below y.heap.size y w1) :
    Calls Try.prog 10 #[.slice A n c, .slice A' n' c'] w1 fun e w' => e = .returned (.bool true) ∧ Below w1.heap.size w1 w' :=
  (same_any w1 A A' n c n' c' _ _ l l (h.below hb) (h'.below hb) (by unfold maxLen; omega) (by unfold maxLen; omega)).mono fun e w' ⟨h1, k, h2⟩ => ⟨by rw [h1, decide_eq_true rfl], by rw [h2]; exact belowN9 (Below.refl _ _) k⟩
def dstTF (i : Nat) : Nat := ([109, 110, 111, 112, 113, 114, 115, 116, 117, 118, 119, 120, 121, 122, 123, 124, 125, 126, 127, 128, 129, 130, 131, 132, 133, 134, 135, 136, 137, 138, 139, 140, 141, 142, 143, 144, 145, 146, 147, 148, 149, 150, 151, 152, 153, 154, 155, 156, 157, 158, 159, 160, 161, 162, 163, 164, 165, 166, 167, 168, 169, 170, 171, 2] : List Nat).getD i 0
def depsTF (i : Nat) : List Nat := ([[], [0], [], [2], [1, 3], [4], [5], [6, 5], [5], [8, 5], [7, 9, 5], [5, 10], [11], [12], [13, 12], [14, 12], [12], [16, 12], [15, 17, 12], [12, 18], [19], [20], [21, 20], [20], [23, 20], [22, 24, 20], [20, 25], [26], [27], [28, 27], [27], [30, 27], [29, 31, 27], [27, 32], [33], [34], [34], [36, 34], [35, 37, 34], [34, 38], [39], [40], [41, 40], [42, 40], [40, 43], [44], [45], [46, 45], [47, 45], [45, 48], [49], [50], [51, 50], [52, 50], [50, 53], [54], [55], [56, 55], [57, 55], [55, 58], [59], [60], [60, 61], [62]] : List (List Nat)).getD i []
def FrTF (gx g6 ch cn c1 c2 c3 c4 c5 c9 : Nat) (Ah An A1 A2 A3 A4 A5 A9 : Option Addr) (au : GA) (r : FT) (a : Act) : Prop := a.eval (.tmp 5) = .pointer (some ⟨gx, 0, none⟩) ∧ a.eval (.tmp 6) = .pointer (some ⟨g6, 0, none⟩) ∧ a.eval (.tmp 7) = .slice A9 r.again.length c9
def kindsTF (gx g6 ch cn c1 c2 c3 c4 c5 c9 : Nat) (Ah An A1 A2 A3 A4 A5 A9 : Option Addr) (au : GA) (r : FT) : List KQ9 := [.eq (.pointer (some ⟨g6, 13, none⟩)), .eq (.int .i64 r.seq), .eq (.pointer (some ⟨gx, 29, none⟩)), .eq (.int .i64 r.seq), .eq (.bool true), .eq (.bool true), .eq (.agg #[.int .i64 7, .int .i64 1, .int .i64 2, .int .i64 8, .int .i64 0, .int .i64 0, .bool false, .int .i64 0, .int .i64 0, .int .i64 0, .int .i64 0, .slice au.Ad 0 au.cd, .int .i64 4, .int .i64 r.seq, .slice au.Ah r.have_.length au.ch, .slice au.An r.need.length au.cn, .int .i64 0, .int .i64 0, .int .i64 0, .int .i64 0, .int .i64 0, .slice au.c.Ak 0 au.c.ck, .slice au.c.Av 0 au.c.cv, .slice au.c.Ao 0 au.c.co]), .eq (.int .i64 r.safe), .eq (.pointer (some ⟨gx, 30, none⟩)), .eq (.int .i64 r.safe), .eq (.bool true), .eq (.bool true), .eq (.bool true), .eq (.pointer (some ⟨gx, 0, none⟩)), .eq (.agg #[.int .i64 7, .int .i64 0, .int .i64 0, .int .i64 8, .int .i64 0, .int .i64 0, .bool false, .int .i64 0, .int .i64 0, .int .i64 0, .int .i64 0, .slice none 0 0, .int .i64 3, .int .i64 r.s0, .slice Ah r.hv.length ch, .slice An r.nv.length cn, .int .i64 0, .int .i64 0, .int .i64 0, .int .i64 0, .int .i64 0, .slice none 0 0, .slice none 0 0, .slice none 0 0]), .eq (.int .i64 r.room), .eq (.pointer (some ⟨gx, 31, none⟩)), .eq (.int .i64 r.room), .eq (.bool true), .eq (.bool true), .eq (.bool true), .eq (.pointer (some ⟨g6, 14, none⟩)), .eq (.slice au.Ah r.have_.length au.ch), .eq (.pointer (some ⟨gx, 32, none⟩)), .eq (.slice A3 r.have_.length c3), .eq (.bool true), .eq (.bool true), .eq (.bool true), .eq (.pointer (some ⟨g6, 15, none⟩)), .eq (.slice au.An r.need.length au.cn), .eq (.pointer (some ⟨gx, 33, none⟩)), .eq (.slice A4 r.need.length c4), .eq (.bool true), .eq (.bool true), .eq (.bool true), .eq (.slice A9 r.again.length c9), .eq (.pointer (some ⟨gx, 34, none⟩)), .eq (.slice A5 r.again.length c5), .eq (.bool true), .eq (.bool true), .eq (.bool true), .eq (.pointer (some ⟨g6, 12, none⟩)), .eq (.int .i64 4), .eq (.bool true), .eq (.bool true), .eq (.bool true), .eq (.pointer (some ⟨g6, 1, none⟩)), .eq (.int .i64 1), .eq (.bool true), .eq (.bool true), .eq (.bool true), .eq (.pointer (some ⟨g6, 2, none⟩)), .eq (.int .i64 2), .eq (.bool true), .eq (.bool true), .eq (.bool true), .eq (.pointer (some ⟨g6, 3, none⟩)), .eq (.int .i64 8), .eq (.bool true), .eq (.bool true), .eq (.bool true), .eq (.bool true), .eq (.bool true), .eq (.bool true)]
def frameTF (gx g6 ch cn c1 c2 c3 c4 c5 c9 : Nat) (Ah An A1 A2 A3 A4 A5 A9 : Option Addr) (au : GA) (r : FT) (x0 x1 x3 x4 x8 x9 x10 x11 x12 x13 x14 x15 x16 x17 x18 x19 x20 x21 x22 x23 x24 x25 x26 x27 x28 x29 x30 x31 x32 x33 x34 x35 x36 x37 x38 x39 x40 x41 x42 x43 x44 x45 x46 x47 x48 x49 x50 x51 x52 x53 x54 x55 x56 x57 x58 x59 x60 x61 x62 x63 x64 x65 x66 x67 x68 x69 x70 x71 x72 x73 x74 x75 x76 x77 x78 x79 x80 x81 x82 x83 x84 x85 x86 x87 x88 x89 x90 x91 x92 x93 x94 x95 x96 x97 x98 x99 x100 x101 x102 x103 x104 x105 x106 x107 x108 : Value) (U : Nat → Value) : Act := { tmps := List.toArray (x0 :: x1 :: U 2 :: x3 :: x4 :: .pointer (some ⟨gx, 0, none⟩) :: .pointer (some ⟨g6, 0, none⟩) :: .slice A9 r.again.length c9 :: x8 :: x9 :: x10 :: x11 :: x12 :: x13 :: x14 :: x15 :: x16 :: x17 :: x18 :: x19 :: x20 :: x21 :: x22 :: x23 :: x24 :: x25 :: x26 :: x27 :: x28 :: x29 :: x30 :: x31 :: x32 :: x33 :: x34 :: x35 :: x36 :: x37 :: x38 :: x39 :: x40 :: x41 :: x42 :: x43 :: x44 :: x45 :: x46 :: x47 :: x48 :: x49 :: x50 :: x51 :: x52 :: x53 :: x54 :: x55 :: x56 :: x57 :: x58 :: x59 :: x60 :: x61 :: x62 :: x63 :: x64 :: x65 :: x66 :: x67 :: x68 :: x69 :: x70 :: x71 :: x72 :: x73 :: x74 :: x75 :: x76 :: x77 :: x78 :: x79 :: x80 :: x81 :: x82 :: x83 :: x84 :: x85 :: x86 :: x87 :: x88 :: x89 :: x90 :: x91 :: x92 :: x93 :: x94 :: x95 :: x96 :: x97 :: x98 :: x99 :: x100 :: x101 :: x102 :: x103 :: x104 :: x105 :: x106 :: x107 :: x108 :: U 109 :: U 110 :: U 111 :: U 112 :: U 113 :: U 114 :: U 115 :: U 116 :: U 117 :: U 118 :: U 119 :: U 120 :: U 121 :: U 122 :: U 123 :: U 124 :: U 125 :: U 126 :: U 127 :: U 128 :: U 129 :: U 130 :: U 131 :: U 132 :: U 133 :: U 134 :: U 135 :: U 136 :: U 137 :: U 138 :: U 139 :: U 140 :: U 141 :: U 142 :: U 143 :: U 144 :: U 145 :: U 146 :: U 147 :: U 148 :: U 149 :: U 150 :: U 151 :: U 152 :: U 153 :: U 154 :: U 155 :: U 156 :: U 157 :: U 158 :: U 159 :: U 160 :: U 161 :: U 162 :: U 163 :: U 164 :: U 165 :: U 166 :: U 167 :: U 168 :: U 169 :: U 170 :: U 171 :: []), defers := [] }
set_option maxHeartbeats 16000000 in
set_option maxRecDepth 100000 in
theorem toknForms_walk (a0 : Int) (w : World) (w0 : (Lit.int .i64 a0).wf = true) :
    Calls Try.prog 3 #[.int .i64 a0] w fun e w' => e = .returned (.bool true) ∧ Below w.heap.size w w' := by
  have c255 := and_255 a0
  go_enter Try.func3, Try.ntmps3
  go_upto_region 2 with fail
  go_cut [4] from 8 to 84 (fun s4 wx => ∃ gt, s4 = .slice (some ⟨gt, 0, none⟩) 12 12 ∧ Hid (TabT wx gt) ∧ Hid (Below w.heap.size w wx))
  case first =>
    obtain ⟨y0, hy0⟩ : ∃ y, w = y := ⟨_, rfl⟩
    have HA : Hid (AccT w y0 []) := Lib.hid (by rw [← hy0]; exact AccT.start w)
    rw [hy0]
    refine wp_region_app17 (by simp only [List.append_eq, List.cons_append, List.nil_append]; exact rfl) ?_
    obtain ⟨b0, hb0⟩ : ∃ b, y0.heap.size = b := ⟨_, rfl⟩
    have HA2 := Lib.hid (HA.out.alloc [5, 5] #[.int .i64 5, .int .i64 5] rfl (g := b0) (by (try simp only [World.size_alloc]); omega))
    obtain ⟨x0, hx0⟩ : ∃ y, (y0.alloc (.cells #[.int .i64 5, .int .i64 5] 3)) = y := ⟨_, rfl⟩
    rw [hx0] at HA2
    clear HA
    have HA := HA2
    clear HA2
    go_wp2_with fail
    try simp only [Nat.add_assoc, Nat.reduceAdd]
    refine (form17 x0 5 (some ⟨b0, 0, none⟩) none 2 2 0 0).mono ?_
    rintro e y1 ⟨rfl, hbz⟩
    have HA := Lib.hid (HA.out.below hbz)
    clear hbz hb0 hx0
    obtain ⟨b1, hb1⟩ : ∃ b, y1.heap.size = b := ⟨_, rfl⟩
    have HA2 := Lib.hid ((HA.out.alloc [5, 5] #[.int .i64 5, .int .i64 5] rfl (g := b1) (by (try simp only [World.size_alloc]); omega)).alloc [5, 5] #[.int .i64 5, .int .i64 5] rfl (g := b1 + 1) (by (try simp only [World.size_alloc]); omega))
    obtain ⟨x1, hx1⟩ : ∃ y, ((y1.alloc (.cells #[.int .i64 5, .int .i64 5] 3)).alloc (.cells #[.int .i64 5, .int .i64 5] 3)) = y := ⟨_, rfl⟩
    rw [hx1] at HA2
    clear HA
    have HA := HA2
    clear HA2
    go_wp2_with fail
    try simp only [Nat.add_assoc, Nat.reduceAdd]
    refine (form17 x1 5 (some ⟨(b1 + 1), 0, none⟩) none 2 2 0 0).mono ?_
    rintro e y2 ⟨rfl, hbz⟩
    have HA := Lib.hid (HA.out.below hbz)
    clear hbz hb1 hx1
    obtain ⟨b2, hb2⟩ : ∃ b, y2.heap.size = b := ⟨_, rfl⟩
    have HA2 := Lib.hid ((HA.out.alloc [7, 5] #[.int .i64 7, .int .i64 5] rfl (g := b2) (by (try simp only [World.size_alloc]); omega)).alloc [5, 5] #[.int .i64 5, .int .i64 5] rfl (g := b2 + 1) (by (try simp only [World.size_alloc]); omega))
    obtain ⟨x2, hx2⟩ : ∃ y, ((y2.alloc (.cells #[.int .i64 7, .int .i64 5] 3)).alloc (.cells #[.int .i64 5, .int .i64 5] 3)) = y := ⟨_, rfl⟩
    rw [hx2] at HA2
    clear HA
    have HA := HA2
    clear HA2
    go_wp2_with fail
    try simp only [Nat.add_assoc, Nat.reduceAdd]
    refine (form17 x2 5 (some ⟨(b2 + 1), 0, none⟩) none 2 2 0 0).mono ?_
    rintro e y3 ⟨rfl, hbz⟩
    have HA := Lib.hid (HA.out.below hbz)
    clear hbz hb2 hx2
    obtain ⟨b3, hb3⟩ : ∃ b, y3.heap.size = b := ⟨_, rfl⟩
    have HA2 := Lib.hid ((HA.out.alloc [5, 9] #[.int .i64 5, .int .i64 9] rfl (g := b3) (by (try simp only [World.size_alloc]); omega)).alloc [5, 20] #[.int .i64 5, .int .i64 20] rfl (g := b3 + 1) (by (try simp only [World.size_alloc]); omega))
    obtain ⟨x3, hx3⟩ : ∃ y, ((y3.alloc (.cells #[.int .i64 5, .int .i64 9] 3)).alloc (.cells #[.int .i64 5, .int .i64 20] 3)) = y := ⟨_, rfl⟩
    rw [hx3] at HA2
    clear HA
    have HA := HA2
    clear HA2
    go_wp2_with fail
    try simp only [Nat.add_assoc, Nat.reduceAdd]
    refine (form17 x3 20 (some ⟨(b3 + 1), 0, none⟩) none 2 2 0 0).mono ?_
    rintro e y4 ⟨rfl, hbz⟩
    have HA := Lib.hid (HA.out.below hbz)
    clear hbz hb3 hx3
    obtain ⟨b4, hb4⟩ : ∃ b, y4.heap.size = b := ⟨_, rfl⟩
    have HA2 := Lib.hid ((HA.out.alloc [5, 20] #[.int .i64 5, .int .i64 20] rfl (g := b4) (by (try simp only [World.size_alloc]); omega)).alloc [5, 21] #[.int .i64 5, .int .i64 21] rfl (g := b4 + 1) (by (try simp only [World.size_alloc]); omega))
    obtain ⟨x4, hx4⟩ : ∃ y, ((y4.alloc (.cells #[.int .i64 5, .int .i64 20] 3)).alloc (.cells #[.int .i64 5, .int .i64 21] 3)) = y := ⟨_, rfl⟩
    rw [hx4] at HA2
    clear HA
    have HA := HA2
    clear HA2
    go_wp2_with fail
    try simp only [Nat.add_assoc, Nat.reduceAdd]
    refine (form17 x4 21 (some ⟨(b4 + 1), 0, none⟩) none 2 2 0 0).mono ?_
    rintro e y5 ⟨rfl, hbz⟩
    have HA := Lib.hid (HA.out.below hbz)
    clear hbz hb4 hx4
    obtain ⟨b5, hb5⟩ : ∃ b, y5.heap.size = b := ⟨_, rfl⟩
    have HA2 := Lib.hid (((HA.out.alloc [5, 21] #[.int .i64 5, .int .i64 21] rfl (g := b5) (by (try simp only [World.size_alloc]); omega)).alloc [5, 9] #[.int .i64 5, .int .i64 9] rfl (g := b5 + 1) (by (try simp only [World.size_alloc]); omega)).alloc [6, 7] #[.int .i64 6, .int .i64 7] rfl (g := b5 + 2) (by (try simp only [World.size_alloc]); omega))
    obtain ⟨x5, hx5⟩ : ∃ y, (((y5.alloc (.cells #[.int .i64 5, .int .i64 21] 3)).alloc (.cells #[.int .i64 5, .int .i64 9] 3)).alloc (.cells #[.int .i64 6, .int .i64 7] 3)) = y := ⟨_, rfl⟩
    rw [hx5] at HA2
    clear HA
    have HA := HA2
    clear HA2
    go_wp2_with fail
    try simp only [Nat.add_assoc, Nat.reduceAdd]
    refine (form17 x5 9 (some ⟨(b5 + 1), 0, none⟩) (some ⟨(b5 + 2), 0, none⟩) 2 2 2 2).mono ?_
    rintro e y6 ⟨rfl, hbz⟩
    have HA := Lib.hid (HA.out.below hbz)
    clear hbz hb5 hx5
    obtain ⟨b6, hb6⟩ : ∃ b, y6.heap.size = b := ⟨_, rfl⟩
    have HA2 := Lib.hid ((((((HA.out.alloc [6] #[.int .i64 6] rfl (g := b6) (by (try simp only [World.size_alloc]); omega)).alloc [5, 9] #[.int .i64 5, .int .i64 9] rfl (g := b6 + 1) (by (try simp only [World.size_alloc]); omega)).alloc [7] #[.int .i64 7] rfl (g := b6 + 2) (by (try simp only [World.size_alloc]); omega)).alloc [6] #[.int .i64 6] rfl (g := b6 + 3) (by (try simp only [World.size_alloc]); omega)).alloc [5, 9] #[.int .i64 5, .int .i64 9] rfl (g := b6 + 4) (by (try simp only [World.size_alloc]); omega)).alloc [6, 7] #[.int .i64 6, .int .i64 7] rfl (g := b6 + 5) (by (try simp only [World.size_alloc]); omega))
    obtain ⟨x6, hx6⟩ : ∃ y, ((((((y6.alloc (.cells #[.int .i64 6] 3)).alloc (.cells #[.int .i64 5, .int .i64 9] 3)).alloc (.cells #[.int .i64 7] 3)).alloc (.cells #[.int .i64 6] 3)).alloc (.cells #[.int .i64 5, .int .i64 9] 3)).alloc (.cells #[.int .i64 6, .int .i64 7] 3)) = y := ⟨_, rfl⟩
    rw [hx6] at HA2
    clear HA
    have HA := HA2
    clear HA2
    go_wp2_with fail
    try simp only [Nat.add_assoc, Nat.reduceAdd]
    refine (form17 x6 9 (some ⟨(b6 + 4), 0, none⟩) (some ⟨(b6 + 5), 0, none⟩) 2 2 2 2).mono ?_
    rintro e y7 ⟨rfl, hbz⟩
    have HA := Lib.hid (HA.out.below hbz)
    clear hbz hb6 hx6
    obtain ⟨b7, hb7⟩ : ∃ b, y7.heap.size = b := ⟨_, rfl⟩
    have HA2 := Lib.hid ((HA.out.alloc [9, 9] #[.int .i64 9, .int .i64 9] rfl (g := b7) (by (try simp only [World.size_alloc]); omega)).alloc [5, 9] #[.int .i64 5, .int .i64 9] rfl (g := b7 + 1) (by (try simp only [World.size_alloc]); omega))
    obtain ⟨x7, hx7⟩ : ∃ y, ((y7.alloc (.cells #[.int .i64 9, .int .i64 9] 3)).alloc (.cells #[.int .i64 5, .int .i64 9] 3)) = y := ⟨_, rfl⟩
    rw [hx7] at HA2
    clear HA
    have HA := HA2
    clear HA2
    go_wp2_with fail
    try simp only [Nat.add_assoc, Nat.reduceAdd]
    refine (form17 x7 9 (some ⟨(b7 + 1), 0, none⟩) none 2 2 0 0).mono ?_
    rintro e y8 ⟨rfl, hbz⟩
    have HA := Lib.hid (HA.out.below hbz)
    clear hbz hb7 hx7
    obtain ⟨b8, hb8⟩ : ∃ b, y8.heap.size = b := ⟨_, rfl⟩
    have HA2 := Lib.hid (((((HA.out.alloc [7, 9] #[.int .i64 7, .int .i64 9] rfl (g := b8) (by (try simp only [World.size_alloc]); omega)).alloc [6, 9] #[.int .i64 6, .int .i64 9] rfl (g := b8 + 1) (by (try simp only [World.size_alloc]); omega)).alloc [7, 9] #[.int .i64 7, .int .i64 9] rfl (g := b8 + 2) (by (try simp only [World.size_alloc]); omega)).alloc [5, 9] #[.int .i64 5, .int .i64 9] rfl (g := b8 + 3) (by (try simp only [World.size_alloc]); omega)).alloc [7] #[.int .i64 7] rfl (g := b8 + 4) (by (try simp only [World.size_alloc]); omega))
    obtain ⟨x8, hx8⟩ : ∃ y, (((((y8.alloc (.cells #[.int .i64 7, .int .i64 9] 3)).alloc (.cells #[.int .i64 6, .int .i64 9] 3)).alloc (.cells #[.int .i64 7, .int .i64 9] 3)).alloc (.cells #[.int .i64 5, .int .i64 9] 3)).alloc (.cells #[.int .i64 7] 3)) = y := ⟨_, rfl⟩
    rw [hx8] at HA2
    clear HA
    have HA := HA2
    clear HA2
    go_wp2_with fail
    try simp only [Nat.add_assoc, Nat.reduceAdd]
    refine (form17 x8 9 (some ⟨(b8 + 3), 0, none⟩) (some ⟨(b8 + 4), 0, none⟩) 2 2 1 1).mono ?_
    rintro e y9 ⟨rfl, hbz⟩
    have HA := Lib.hid (HA.out.below hbz)
    clear hbz hb8 hx8
    obtain ⟨b9, hb9⟩ : ∃ b, y9.heap.size = b := ⟨_, rfl⟩
    have HA2 := Lib.hid (((((HA.out.alloc [7, 9] #[.int .i64 7, .int .i64 9] rfl (g := b9) (by (try simp only [World.size_alloc]); omega)).alloc [6, 9] #[.int .i64 6, .int .i64 9] rfl (g := b9 + 1) (by (try simp only [World.size_alloc]); omega)).alloc [7, 9] #[.int .i64 7, .int .i64 9] rfl (g := b9 + 2) (by (try simp only [World.size_alloc]); omega)).alloc [20, 30] #[.int .i64 20, .int .i64 30] rfl (g := b9 + 3) (by (try simp only [World.size_alloc]); omega)).alloc [21, 22, 23, 24, 25, 26, 27] #[.int .i64 21, .int .i64 22, .int .i64 23, .int .i64 24, .int .i64 25, .int .i64 26, .int .i64 27] rfl (g := b9 + 4) (by (try simp only [World.size_alloc]); omega))
    obtain ⟨x9, hx9⟩ : ∃ y, (((((y9.alloc (.cells #[.int .i64 7, .int .i64 9] 3)).alloc (.cells #[.int .i64 6, .int .i64 9] 3)).alloc (.cells #[.int .i64 7, .int .i64 9] 3)).alloc (.cells #[.int .i64 20, .int .i64 30] 3)).alloc (.cells #[.int .i64 21, .int .i64 22, .int .i64 23, .int .i64 24, .int .i64 25, .int .i64 26, .int .i64 27] 3)) = y := ⟨_, rfl⟩
    rw [hx9] at HA2
    clear HA
    have HA := HA2
    clear HA2
    go_wp2_with fail
    try simp only [Nat.add_assoc, Nat.reduceAdd]
    refine (form17 x9 30 (some ⟨(b9 + 3), 0, none⟩) (some ⟨(b9 + 4), 0, none⟩) 2 2 7 7).mono ?_
    rintro e y10 ⟨rfl, hbz⟩
    have HA := Lib.hid (HA.out.below hbz)
    clear hbz hb9 hx9
    obtain ⟨b10, hb10⟩ : ∃ b, y10.heap.size = b := ⟨_, rfl⟩
    have HA2 := Lib.hid ((((HA.out.alloc [28, 29] #[.int .i64 28, .int .i64 29] rfl (g := b10) (by (try simp only [World.size_alloc]); omega)).alloc [20, 30] #[.int .i64 20, .int .i64 30] rfl (g := b10 + 1) (by (try simp only [World.size_alloc]); omega)).alloc [21, 22, 23, 24, 25, 26, 27, 28] #[.int .i64 21, .int .i64 22, .int .i64 23, .int .i64 24, .int .i64 25, .int .i64 26, .int .i64 27, .int .i64 28] rfl (g := b10 + 2) (by (try simp only [World.size_alloc]); omega)).alloc [5, 5] #[.int .i64 5, .int .i64 5] rfl (g := b10 + 3) (by (try simp only [World.size_alloc]); omega))
    obtain ⟨x10, hx10⟩ : ∃ y, ((((y10.alloc (.cells #[.int .i64 28, .int .i64 29] 3)).alloc (.cells #[.int .i64 20, .int .i64 30] 3)).alloc (.cells #[.int .i64 21, .int .i64 22, .int .i64 23, .int .i64 24, .int .i64 25, .int .i64 26, .int .i64 27, .int .i64 28] 3)).alloc (.cells #[.int .i64 5, .int .i64 5] 3)) = y := ⟨_, rfl⟩
    rw [hx10] at HA2
    clear HA
    have HA := HA2
    clear HA2
    go_wp2_with fail
    try simp only [Nat.add_assoc, Nat.reduceAdd]
    refine (form17 x10 5 (some ⟨(b10 + 3), 0, none⟩) none 2 2 0 0).mono ?_
    rintro e y11 ⟨rfl, hbz⟩
    have HA := Lib.hid (HA.out.below hbz)
    clear hbz hb10 hx10
    obtain ⟨b11, hb11⟩ : ∃ b, y11.heap.size = b := ⟨_, rfl⟩
    have HA2 := Lib.hid (((HA.out.alloc [5, 5] #[.int .i64 5, .int .i64 5] rfl (g := b11) (by (try simp only [World.size_alloc]); omega)).alloc [9, 9] #[.int .i64 9, .int .i64 9] rfl (g := b11 + 1) (by (try simp only [World.size_alloc]); omega)).alloc [8, 8] #[.int .i64 8, .int .i64 8] rfl (g := b11 + 2) (by (try simp only [World.size_alloc]); omega))
    obtain ⟨x11, hx11⟩ : ∃ y, (((y11.alloc (.cells #[.int .i64 5, .int .i64 5] 3)).alloc (.cells #[.int .i64 9, .int .i64 9] 3)).alloc (.cells #[.int .i64 8, .int .i64 8] 3)) = y := ⟨_, rfl⟩
    rw [hx11] at HA2
    clear HA
    have HA := HA2
    clear HA2
    go_wp2_with fail
    try simp only [Nat.add_assoc, Nat.reduceAdd]
    refine (form17 x11 9 (some ⟨(b11 + 1), 0, none⟩) (some ⟨(b11 + 2), 0, none⟩) 2 2 2 2).mono ?_
    rintro e y12 ⟨rfl, hbz⟩
    have HA := Lib.hid (HA.out.below hbz)
    clear hbz hb11 hx11
    obtain ⟨b12, hb12⟩ : ∃ b, y12.heap.size = b := ⟨_, rfl⟩
    have HA2 := Lib.hid (((HA.out.alloc [8] #[.int .i64 8] rfl (g := b12) (by (try simp only [World.size_alloc]); omega)).alloc [9, 9] #[.int .i64 9, .int .i64 9] rfl (g := b12 + 1) (by (try simp only [World.size_alloc]); omega)).alloc [8, 8] #[.int .i64 8, .int .i64 8] rfl (g := b12 + 2) (by (try simp only [World.size_alloc]); omega))
    obtain ⟨x12, hx12⟩ : ∃ y, (((y12.alloc (.cells #[.int .i64 8] 3)).alloc (.cells #[.int .i64 9, .int .i64 9] 3)).alloc (.cells #[.int .i64 8, .int .i64 8] 3)) = y := ⟨_, rfl⟩
    rw [hx12] at HA2
    clear HA
    have HA := HA2
    clear HA2
    go_wp2_with (first
      | (refine wpList_buildT (t := 32) (e := 31) (sz := 35) (by decide) Try.underlying32 ⟨_, _, rfl, rfl, by kernel_rfl⟩ rfl 12 #[(0, .tmp 12), (1, .tmp 17), (2, .tmp 22), (3, .tmp 27), (4, .tmp 32), (5, .tmp 41), (6, .tmp 47), (7, .tmp 54), (8, .tmp 62), (9, .tmp 70), (10, .tmp 75), (11, .tmp 83)] rfl [(.int .i64 7 :: .int .i64 0 :: .int .i64 0 :: .int .i64 8 :: .int .i64 0 :: .int .i64 0 :: .bool false :: .int .i64 0 :: .int .i64 0 :: .int .i64 0 :: .int .i64 0 :: .slice none 0 0 :: .int .i64 3 :: .int .i64 5 :: .slice (some ⟨b0, 0, none⟩) 2 2 :: .slice none 0 0 :: .int .i64 0 :: .int .i64 0 :: .int .i64 0 :: .int .i64 0 :: .int .i64 0 :: .slice none 0 0 :: .slice none 0 0 :: .slice none 0 0 :: .int .i64 0 :: .int .i64 5 :: .int .i64 0 :: .slice none 0 0 :: .slice none 0 0 :: .int .i64 5 :: .int .i64 5 :: .int .i64 4 :: .slice (some ⟨b1, 0, none⟩) 2 2 :: .slice none 0 0 :: .slice none 0 0 :: []), (.int .i64 7 :: .int .i64 0 :: .int .i64 0 :: .int .i64 8 :: .int .i64 0 :: .int .i64 0 :: .bool false :: .int .i64 0 :: .int .i64 0 :: .int .i64 0 :: .int .i64 0 :: .slice none 0 0 :: .int .i64 3 :: .int .i64 5 :: .slice (some ⟨b1 + 1, 0, none⟩) 2 2 :: .slice none 0 0 :: .int .i64 0 :: .int .i64 0 :: .int .i64 0 :: .int .i64 0 :: .int .i64 0 :: .slice none 0 0 :: .slice none 0 0 :: .slice none 0 0 :: .int .i64 0 :: .int .i64 7 :: .int .i64 2 :: .slice none 0 0 :: .slice none 0 0 :: .int .i64 7 :: .int .i64 5 :: .int .i64 4 :: .slice (some ⟨b2, 0, none⟩) 2 2 :: .slice none 0 0 :: .slice none 0 0 :: []), (.int .i64 7 :: .int .i64 0 :: .int .i64 0 :: .int .i64 8 :: .int .i64 0 :: .int .i64 0 :: .bool false :: .int .i64 0 :: .int .i64 0 :: .int .i64 0 :: .int .i64 0 :: .slice none 0 0 :: .int .i64 3 :: .int .i64 5 :: .slice (some ⟨b2 + 1, 0, none⟩) 2 2 :: .slice none 0 0 :: .int .i64 0 :: .int .i64 0 :: .int .i64 0 :: .int .i64 0 :: .int .i64 0 :: .slice none 0 0 :: .slice none 0 0 :: .slice none 0 0 :: .int .i64 1 :: .int .i64 9 :: .int .i64 9 :: .slice none 0 0 :: .slice none 0 0 :: .int .i64 9 :: .int .i64 5 :: .int .i64 4 :: .slice (some ⟨b3, 0, none⟩) 2 2 :: .slice none 0 0 :: .slice none 0 0 :: []), (.int .i64 7 :: .int .i64 0 :: .int .i64 0 :: .int .i64 8 :: .int .i64 0 :: .int .i64 0 :: .bool false :: .int .i64 0 :: .int .i64 0 :: .int .i64 0 :: .int .i64 0 :: .slice none 0 0 :: .int .i64 3 :: .int .i64 20 :: .slice (some ⟨b3 + 1, 0, none⟩) 2 2 :: .slice none 0 0 :: .int .i64 0 :: .int .i64 0 :: .int .i64 0 :: .int .i64 0 :: .int .i64 0 :: .slice none 0 0 :: .slice none 0 0 :: .slice none 0 0 :: .int .i64 1 :: .int .i64 20 :: .int .i64 3 :: .slice none 0 0 :: .slice none 0 0 :: .int .i64 21 :: .int .i64 5 :: .int .i64 1 :: .slice (some ⟨b4, 0, none⟩) 2 2 :: .slice none 0 0 :: .slice none 0 0 :: []), (.int .i64 7 :: .int .i64 0 :: .int .i64 0 :: .int .i64 8 :: .int .i64 0 :: .int .i64 0 :: .bool false :: .int .i64 0 :: .int .i64 0 :: .int .i64 0 :: .int .i64 0 :: .slice none 0 0 :: .int .i64 3 :: .int .i64 21 :: .slice (some ⟨b4 + 1, 0, none⟩) 2 2 :: .slice none 0 0 :: .int .i64 0 :: .int .i64 0 :: .int .i64 0 :: .int .i64 0 :: .int .i64 0 :: .slice none 0 0 :: .slice none 0 0 :: .slice none 0 0 :: .int .i64 1 :: .int .i64 21 :: .int .i64 3 :: .slice none 0 0 :: .slice none 0 0 :: .int .i64 21 :: .int .i64 5 :: .int .i64 0 :: .slice (some ⟨b5, 0, none⟩) 2 2 :: .slice none 0 0 :: .slice none 0 0 :: []), (.int .i64 7 :: .int .i64 0 :: .int .i64 0 :: .int .i64 8 :: .int .i64 0 :: .int .i64 0 :: .bool false :: .int .i64 0 :: .int .i64 0 :: .int .i64 0 :: .int .i64 0 :: .slice none 0 0 :: .int .i64 3 :: .int .i64 9 :: .slice (some ⟨b5 + 1, 0, none⟩) 2 2 :: .slice (some ⟨b5 + 2, 0, none⟩) 2 2 :: .int .i64 0 :: .int .i64 0 :: .int .i64 0 :: .int .i64 0 :: .int .i64 0 :: .slice none 0 0 :: .slice none 0 0 :: .slice none 0 0 :: .int .i64 1 :: .int .i64 9 :: .int .i64 0 :: .slice (some ⟨b6, 0, none⟩) 1 1 :: .slice none 0 0 :: .int .i64 9 :: .int .i64 5 :: .int .i64 4 :: .slice (some ⟨b6 + 1, 0, none⟩) 2 2 :: .slice (some ⟨b6 + 2, 0, none⟩) 1 1 :: .slice (some ⟨b6 + 3, 0, none⟩) 1 1 :: []), (.int .i64 7 :: .int .i64 0 :: .int .i64 0 :: .int .i64 8 :: .int .i64 0 :: .int .i64 0 :: .bool false :: .int .i64 0 :: .int .i64 0 :: .int .i64 0 :: .int .i64 0 :: .slice none 0 0 :: .int .i64 3 :: .int .i64 9 :: .slice (some ⟨b6 + 4, 0, none⟩) 2 2 :: .slice (some ⟨b6 + 5, 0, none⟩) 2 2 :: .int .i64 0 :: .int .i64 0 :: .int .i64 0 :: .int .i64 0 :: .int .i64 0 :: .slice none 0 0 :: .slice none 0 0 :: .slice none 0 0 :: .int .i64 0 :: .int .i64 9 :: .int .i64 0 :: .slice none 0 0 :: .slice none 0 0 :: .int .i64 9 :: .int .i64 9 :: .int .i64 4 :: .slice (some ⟨b7, 0, none⟩) 2 2 :: .slice none 0 0 :: .slice none 0 0 :: []), (.int .i64 7 :: .int .i64 0 :: .int .i64 0 :: .int .i64 8 :: .int .i64 0 :: .int .i64 0 :: .bool false :: .int .i64 0 :: .int .i64 0 :: .int .i64 0 :: .int .i64 0 :: .slice none 0 0 :: .int .i64 3 :: .int .i64 9 :: .slice (some ⟨b7 + 1, 0, none⟩) 2 2 :: .slice none 0 0 :: .int .i64 0 :: .int .i64 0 :: .int .i64 0 :: .int .i64 0 :: .int .i64 0 :: .slice none 0 0 :: .slice none 0 0 :: .slice none 0 0 :: .int .i64 0 :: .int .i64 6 :: .int .i64 0 :: .slice none 0 0 :: .slice (some ⟨b8, 0, none⟩) 2 2 :: .int .i64 9 :: .int .i64 6 :: .int .i64 4 :: .slice (some ⟨b8 + 1, 0, none⟩) 2 2 :: .slice (some ⟨b8 + 2, 0, none⟩) 2 2 :: .slice none 0 0 :: []), (.int .i64 7 :: .int .i64 0 :: .int .i64 0 :: .int .i64 8 :: .int .i64 0 :: .int .i64 0 :: .bool false :: .int .i64 0 :: .int .i64 0 :: .int .i64 0 :: .int .i64 0 :: .slice none 0 0 :: .int .i64 3 :: .int .i64 9 :: .slice (some ⟨b8 + 3, 0, none⟩) 2 2 :: .slice (some ⟨b8 + 4, 0, none⟩) 1 1 :: .int .i64 0 :: .int .i64 0 :: .int .i64 0 :: .int .i64 0 :: .int .i64 0 :: .slice none 0 0 :: .slice none 0 0 :: .slice none 0 0 :: .int .i64 0 :: .int .i64 6 :: .int .i64 0 :: .slice none 0 0 :: .slice (some ⟨b9, 0, none⟩) 2 2 :: .int .i64 9 :: .int .i64 6 :: .int .i64 4 :: .slice (some ⟨b9 + 1, 0, none⟩) 2 2 :: .slice (some ⟨b9 + 2, 0, none⟩) 2 2 :: .slice none 0 0 :: []), (.int .i64 7 :: .int .i64 0 :: .int .i64 0 :: .int .i64 8 :: .int .i64 0 :: .int .i64 0 :: .bool false :: .int .i64 0 :: .int .i64 0 :: .int .i64 0 :: .int .i64 0 :: .slice none 0 0 :: .int .i64 3 :: .int .i64 30 :: .slice (some ⟨b9 + 3, 0, none⟩) 2 2 :: .slice (some ⟨b9 + 4, 0, none⟩) 7 7 :: .int .i64 0 :: .int .i64 0 :: .int .i64 0 :: .int .i64 0 :: .int .i64 0 :: .slice none 0 0 :: .slice none 0 0 :: .slice none 0 0 :: .int .i64 0 :: .int .i64 20 :: .int .i64 0 :: .slice none 0 0 :: .slice (some ⟨b10, 0, none⟩) 2 2 :: .int .i64 30 :: .int .i64 20 :: .int .i64 4 :: .slice (some ⟨b10 + 1, 0, none⟩) 2 2 :: .slice (some ⟨b10 + 2, 0, none⟩) 8 8 :: .slice none 0 0 :: []), (.int .i64 7 :: .int .i64 0 :: .int .i64 0 :: .int .i64 8 :: .int .i64 0 :: .int .i64 0 :: .bool false :: .int .i64 0 :: .int .i64 0 :: .int .i64 0 :: .int .i64 0 :: .slice none 0 0 :: .int .i64 3 :: .int .i64 5 :: .slice (some ⟨b10 + 3, 0, none⟩) 2 2 :: .slice none 0 0 :: .int .i64 0 :: .int .i64 0 :: .int .i64 0 :: .int .i64 0 :: .int .i64 0 :: .slice none 0 0 :: .slice none 0 0 :: .slice none 0 0 :: .int .i64 9 :: .int .i64 7 :: .int .i64 (-3) :: .slice none 0 0 :: .slice none 0 0 :: .int .i64 5 :: .int .i64 5 :: .int .i64 4 :: .slice (some ⟨b11, 0, none⟩) 2 2 :: .slice none 0 0 :: .slice none 0 0 :: []), (.int .i64 7 :: .int .i64 0 :: .int .i64 0 :: .int .i64 8 :: .int .i64 0 :: .int .i64 0 :: .bool false :: .int .i64 0 :: .int .i64 0 :: .int .i64 0 :: .int .i64 0 :: .slice none 0 0 :: .int .i64 3 :: .int .i64 9 :: .slice (some ⟨b11 + 1, 0, none⟩) 2 2 :: .slice (some ⟨b11 + 2, 0, none⟩) 2 2 :: .int .i64 0 :: .int .i64 0 :: .int .i64 0 :: .int .i64 0 :: .int .i64 0 :: .slice none 0 0 :: .slice none 0 0 :: .slice none 0 0 :: .int .i64 0 :: .int .i64 9 :: .int .i64 0 :: .slice (some ⟨b12, 0, none⟩) 1 1 :: .slice none 0 0 :: .int .i64 9 :: .int .i64 9 :: .int .i64 4 :: .slice (some ⟨b12 + 1, 0, none⟩) 2 2 :: .slice none 0 0 :: .slice (some ⟨b12 + 2, 0, none⟩) 2 2 :: [])] (by intro cs hc; simp only [List.mem_cons, List.not_mem_nil, or_false] at hc; rcases hc with rfl | rfl | rfl | rfl | rfl | rfl | rfl | rfl | rfl | rfl | rfl | rfl <;> rfl) rfl (by decide) (by decide) (by kernel_rfl) ?_; intro gt wt hbt hkt; have HTB := Lib.hid hkt; replace HA := Lib.hid (HA.out.below hbt); clear hbt hkt)
      | fail)
    go_meet
    refine ⟨gt, rfl, Lib.hid ?_, Lib.hid HA.out.b⟩
    intro k r hr
    have hk : k < 12 := (List.getElem?_eq_some_iff.1 hr).1
    rcases (show k = 0 ∨ k = 1 ∨ k = 2 ∨ k = 3 ∨ k = 4 ∨ k = 5 ∨ k = 6 ∨ k = 7 ∨ k = 8 ∨ k = 9 ∨ k = 10 ∨ k = 11 by omega) with rfl | rfl | rfl | rfl | rfl | rfl | rfl | rfl | rfl | rfl | rfl | rfl
    all_goals
      injection hr with hr
      subst hr
    · exact ⟨some ⟨b0, 0, none⟩, none, none, none, some ⟨b1, 0, none⟩, none, none, 2, 0, 0, 0, 2, 0, 0, blkRowT HTB.out 0 35 _ rfl, HA.out.r (b0, [5, 5]) (by simp), Rd.none_ _ _ _, Rd.none_ _ _ _, Rd.none_ _ _ _, HA.out.r (b1, [5, 5]) (by simp), Rd.none_ _ _ _, Rd.none_ _ _ _, ⟨by decide, by decide⟩, ⟨by decide, by decide⟩⟩
    · exact ⟨some ⟨b1 + 1, 0, none⟩, none, none, none, some ⟨b2, 0, none⟩, none, none, 2, 0, 0, 0, 2, 0, 0, blkRowT HTB.out 1 35 _ rfl, HA.out.r (b1 + 1, [5, 5]) (by simp), Rd.none_ _ _ _, Rd.none_ _ _ _, Rd.none_ _ _ _, HA.out.r (b2, [7, 5]) (by simp), Rd.none_ _ _ _, Rd.none_ _ _ _, ⟨by decide, by decide⟩, ⟨by decide, by decide⟩⟩
    · exact ⟨some ⟨b2 + 1, 0, none⟩, none, none, none, some ⟨b3, 0, none⟩, none, none, 2, 0, 0, 0, 2, 0, 0, blkRowT HTB.out 2 35 _ rfl, HA.out.r (b2 + 1, [5, 5]) (by simp), Rd.none_ _ _ _, Rd.none_ _ _ _, Rd.none_ _ _ _, HA.out.r (b3, [5, 9]) (by simp), Rd.none_ _ _ _, Rd.none_ _ _ _, ⟨by decide, by decide⟩, ⟨by decide, by decide⟩⟩
    · exact ⟨some ⟨b3 + 1, 0, none⟩, none, none, none, some ⟨b4, 0, none⟩, none, none, 2, 0, 0, 0, 2, 0, 0, blkRowT HTB.out 3 35 _ rfl, HA.out.r (b3 + 1, [5, 20]) (by simp), Rd.none_ _ _ _, Rd.none_ _ _ _, Rd.none_ _ _ _, HA.out.r (b4, [5, 20]) (by simp), Rd.none_ _ _ _, Rd.none_ _ _ _, ⟨by decide, by decide⟩, ⟨by decide, by decide⟩⟩
    · exact ⟨some ⟨b4 + 1, 0, none⟩, none, none, none, some ⟨b5, 0, none⟩, none, none, 2, 0, 0, 0, 2, 0, 0, blkRowT HTB.out 4 35 _ rfl, HA.out.r (b4 + 1, [5, 21]) (by simp), Rd.none_ _ _ _, Rd.none_ _ _ _, Rd.none_ _ _ _, HA.out.r (b5, [5, 21]) (by simp), Rd.none_ _ _ _, Rd.none_ _ _ _, ⟨by decide, by decide⟩, ⟨by decide, by decide⟩⟩
    · exact ⟨some ⟨b5 + 1, 0, none⟩, some ⟨b5 + 2, 0, none⟩, some ⟨b6, 0, none⟩, none, some ⟨b6 + 1, 0, none⟩, some ⟨b6 + 2, 0, none⟩, some ⟨b6 + 3, 0, none⟩, 2, 2, 1, 0, 2, 1, 1, blkRowT HTB.out 5 35 _ rfl, HA.out.r (b5 + 1, [5, 9]) (by simp), HA.out.r (b5 + 2, [6, 7]) (by simp), HA.out.r (b6, [6]) (by simp), Rd.none_ _ _ _, HA.out.r (b6 + 1, [5, 9]) (by simp), HA.out.r (b6 + 2, [7]) (by simp), HA.out.r (b6 + 3, [6]) (by simp), ⟨by decide, by decide⟩, ⟨by decide, by decide⟩⟩
    · exact ⟨some ⟨b6 + 4, 0, none⟩, some ⟨b6 + 5, 0, none⟩, none, none, some ⟨b7, 0, none⟩, none, none, 2, 2, 0, 0, 2, 0, 0, blkRowT HTB.out 6 35 _ rfl, HA.out.r (b6 + 4, [5, 9]) (by simp), HA.out.r (b6 + 5, [6, 7]) (by simp), Rd.none_ _ _ _, Rd.none_ _ _ _, HA.out.r (b7, [9, 9]) (by simp), Rd.none_ _ _ _, Rd.none_ _ _ _, ⟨by decide, by decide⟩, ⟨by decide, by decide⟩⟩
    · exact ⟨some ⟨b7 + 1, 0, none⟩, none, none, some ⟨b8, 0, none⟩, some ⟨b8 + 1, 0, none⟩, some ⟨b8 + 2, 0, none⟩, none, 2, 0, 0, 2, 2, 2, 0, blkRowT HTB.out 7 35 _ rfl, HA.out.r (b7 + 1, [5, 9]) (by simp), Rd.none_ _ _ _, Rd.none_ _ _ _, HA.out.r (b8, [7, 9]) (by simp), HA.out.r (b8 + 1, [6, 9]) (by simp), HA.out.r (b8 + 2, [7, 9]) (by simp), Rd.none_ _ _ _, ⟨by decide, by decide⟩, ⟨by decide, by decide⟩⟩
    · exact ⟨some ⟨b8 + 3, 0, none⟩, some ⟨b8 + 4, 0, none⟩, none, some ⟨b9, 0, none⟩, some ⟨b9 + 1, 0, none⟩, some ⟨b9 + 2, 0, none⟩, none, 2, 1, 0, 2, 2, 2, 0, blkRowT HTB.out 8 35 _ rfl, HA.out.r (b8 + 3, [5, 9]) (by simp), HA.out.r (b8 + 4, [7]) (by simp), Rd.none_ _ _ _, HA.out.r (b9, [7, 9]) (by simp), HA.out.r (b9 + 1, [6, 9]) (by simp), HA.out.r (b9 + 2, [7, 9]) (by simp), Rd.none_ _ _ _, ⟨by decide, by decide⟩, ⟨by decide, by decide⟩⟩
    · exact ⟨some ⟨b9 + 3, 0, none⟩, some ⟨b9 + 4, 0, none⟩, none, some ⟨b10, 0, none⟩, some ⟨b10 + 1, 0, none⟩, some ⟨b10 + 2, 0, none⟩, none, 2, 7, 0, 2, 2, 8, 0, blkRowT HTB.out 9 35 _ rfl, HA.out.r (b9 + 3, [20, 30]) (by simp), HA.out.r (b9 + 4, [21, 22, 23, 24, 25, 26, 27]) (by simp), Rd.none_ _ _ _, HA.out.r (b10, [28, 29]) (by simp), HA.out.r (b10 + 1, [20, 30]) (by simp), HA.out.r (b10 + 2, [21, 22, 23, 24, 25, 26, 27, 28]) (by simp), Rd.none_ _ _ _, ⟨by decide, by decide⟩, ⟨by decide, by decide⟩⟩
    · exact ⟨some ⟨b10 + 3, 0, none⟩, none, none, none, some ⟨b11, 0, none⟩, none, none, 2, 0, 0, 0, 2, 0, 0, blkRowT HTB.out 10 35 _ rfl, HA.out.r (b10 + 3, [5, 5]) (by simp), Rd.none_ _ _ _, Rd.none_ _ _ _, Rd.none_ _ _ _, HA.out.r (b11, [5, 5]) (by simp), Rd.none_ _ _ _, Rd.none_ _ _ _, ⟨by decide, by decide⟩, ⟨by decide, by decide⟩⟩
    · exact ⟨some ⟨b11 + 1, 0, none⟩, some ⟨b11 + 2, 0, none⟩, some ⟨b12, 0, none⟩, none, some ⟨b12 + 1, 0, none⟩, none, some ⟨b12 + 2, 0, none⟩, 2, 2, 1, 0, 2, 0, 2, blkRowT HTB.out 11 35 _ rfl, HA.out.r (b11 + 1, [9, 9]) (by simp), HA.out.r (b11 + 2, [8, 8]) (by simp), HA.out.r (b12, [8]) (by simp), Rd.none_ _ _ _, HA.out.r (b12 + 1, [9, 9]) (by simp), Rd.none_ _ _ _, HA.out.r (b12 + 2, [8, 8]) (by simp), ⟨by decide, by decide⟩, ⟨by decide, by decide⟩⟩
  rename_i hcut
  obtain ⟨gt, rfl, HT, HB⟩ := hcut
  rename World => wa
  obtain ⟨k, hk0, hk⟩ : ∃ k : Nat, a0 % 256 % 12 = (k : Int) ∧ k < 12 := ⟨(a0 % 256 % 12).toNat, by omega, by omega⟩
  obtain ⟨r, hr⟩ : ∃ r, tabT[k]? = some r := ⟨_, List.getElem?_eq_getElem hk⟩
  have hok := tabT_ok r (List.mem_of_getElem? hr)
  simp only [FT.ok, Bool.and_eq_true, decide_eq_true_eq] at hok
  obtain ⟨hpass, hinn, hsafe, hroom, hlens, hbnds⟩ := hok
  obtain ⟨Ah, An, A1, A2, A3, A4, A5, ch, cn, c1, c2, c3, c4, c5, hrg, rh, rn, r1, r2, r3, r4, r5, kh, kn⟩ := HT.out k r hr
  have hrg' : wa.rangeAt gt (k * 35) (.int .i64 7 :: .int .i64 0 :: .int .i64 0 :: .int .i64 8 :: .int .i64 0 :: .int .i64 0 :: .bool false :: .int .i64 0 :: .int .i64 0 :: .int .i64 0 :: .int .i64 0 :: .slice none 0 0 :: .int .i64 3 :: .int .i64 r.s0 :: .slice Ah r.hv.length ch :: .slice An r.nv.length cn :: .int .i64 0 :: .int .i64 0 :: .int .i64 0 :: .int .i64 0 :: .int .i64 0 :: .slice none 0 0 :: .slice none 0 0 :: .slice none 0 0 :: .int .i64 r.place :: .int .i64 r.whole :: .int .i64 r.fresh :: .slice A1 r.has.length c1 :: .slice A2 r.mis.length c2 :: .int .i64 r.seq :: .int .i64 r.safe :: .int .i64 r.room :: .slice A3 r.have_.length c3 :: .slice A4 r.need.length c4 :: .slice A5 r.again.length c5 :: []) := hrg
  have HRG := Lib.hid hrg'
  have HRS := Lib.hid (And.intro rh (And.intro rn (And.intro r1 (And.intro r2 (And.intro r3 (And.intro r4 r5))))))
  have HKK := Lib.hid (And.intro kh kn)
  have HOK := Lib.hid (And.intro hpass (And.intro hinn (And.intro hsafe hroom)))
  have HLN := Lib.hid hlens
  have HBD := Lib.hid hbnds
  clear hrg hrg' rh rn r1 r2 r3 r4 r5 kh kn hpass hinn hsafe hroom hlens hbnds hr HT
  go_upto_region 4 with (first
    | (refine wpList_load_mid rfl 31 (.tmp 91) rfl gt (k * 35) rfl (.int .i64 7 :: .int .i64 0 :: .int .i64 0 :: .int .i64 8 :: .int .i64 0 :: .int .i64 0 :: .bool false :: .int .i64 0 :: .int .i64 0 :: .int .i64 0 :: .int .i64 0 :: .slice none 0 0 :: .int .i64 3 :: .int .i64 r.s0 :: .slice Ah r.hv.length ch :: .slice An r.nv.length cn :: .int .i64 0 :: .int .i64 0 :: .int .i64 0 :: .int .i64 0 :: .int .i64 0 :: .slice none 0 0 :: .slice none 0 0 :: .slice none 0 0 :: .int .i64 r.place :: .int .i64 r.whole :: .int .i64 r.fresh :: .slice A1 r.has.length c1 :: .slice A2 r.mis.length c2 :: .int .i64 r.seq :: .int .i64 r.safe :: .int .i64 r.room :: .slice A3 r.have_.length c3 :: .slice A4 r.need.length c4 :: .slice A5 r.again.length c5 :: []) _ HRG.out Try.underlying31 rfl (by kernel_rfl) ?_)
    | (refine wpList_store_row rfl 31 (.tmp 5) (.tmp 92) rfl wa.heap.size (List.toArray (.int .i64 7 :: .int .i64 0 :: .int .i64 0 :: .int .i64 8 :: .int .i64 0 :: .int .i64 0 :: .bool false :: .int .i64 0 :: .int .i64 0 :: .int .i64 0 :: .int .i64 0 :: .slice none 0 0 :: .int .i64 3 :: .int .i64 r.s0 :: .slice Ah r.hv.length ch :: .slice An r.nv.length cn :: .int .i64 0 :: .int .i64 0 :: .int .i64 0 :: .int .i64 0 :: .int .i64 0 :: .slice none 0 0 :: .slice none 0 0 :: .slice none 0 0 :: .int .i64 r.place :: .int .i64 r.whole :: .int .i64 r.fresh :: .slice A1 r.has.length c1 :: .slice A2 r.mis.length c2 :: .int .i64 r.seq :: .int .i64 r.safe :: .int .i64 r.room :: .slice A3 r.have_.length c3 :: .slice A4 r.need.length c4 :: .slice A5 r.again.length c5 :: [])) rfl rfl 31 (List.toArray (.int .i64 0 :: .int .i64 0 :: .int .i64 0 :: .int .i64 0 :: .int .i64 0 :: .int .i64 0 :: .bool false :: .int .i64 0 :: .int .i64 0 :: .int .i64 0 :: .int .i64 0 :: .slice none 0 0 :: .int .i64 0 :: .int .i64 0 :: .slice none 0 0 :: .slice none 0 0 :: .int .i64 0 :: .int .i64 0 :: .int .i64 0 :: .int .i64 0 :: .int .i64 0 :: .slice none 0 0 :: .slice none 0 0 :: .slice none 0 0 :: .int .i64 0 :: .int .i64 0 :: .int .i64 0 :: .slice none 0 0 :: .slice none 0 0 :: .int .i64 0 :: .int .i64 0 :: .int .i64 0 :: .slice none 0 0 :: .slice none 0 0 :: .slice none 0 0 :: [])) (Blk.new wa 31 (List.toArray (.int .i64 0 :: .int .i64 0 :: .int .i64 0 :: .int .i64 0 :: .int .i64 0 :: .int .i64 0 :: .bool false :: .int .i64 0 :: .int .i64 0 :: .int .i64 0 :: .int .i64 0 :: .slice none 0 0 :: .int .i64 0 :: .int .i64 0 :: .slice none 0 0 :: .slice none 0 0 :: .int .i64 0 :: .int .i64 0 :: .int .i64 0 :: .int .i64 0 :: .int .i64 0 :: .slice none 0 0 :: .slice none 0 0 :: .slice none 0 0 :: .int .i64 0 :: .int .i64 0 :: .int .i64 0 :: .slice none 0 0 :: .slice none 0 0 :: .int .i64 0 :: .int .i64 0 :: .int .i64 0 :: .slice none 0 0 :: .slice none 0 0 :: .slice none 0 0 :: []))) (by kernel_rfl) rfl (by kernel_rfl) ?_)
    | fail)
  obtain ⟨gx, wb, hgE, hwE, hbE, hkE⟩ := boxed wa (List.toArray (.int .i64 0 :: .int .i64 0 :: .int .i64 0 :: .int .i64 0 :: .int .i64 0 :: .int .i64 0 :: .bool false :: .int .i64 0 :: .int .i64 0 :: .int .i64 0 :: .int .i64 0 :: .slice none 0 0 :: .int .i64 0 :: .int .i64 0 :: .slice none 0 0 :: .slice none 0 0 :: .int .i64 0 :: .int .i64 0 :: .int .i64 0 :: .int .i64 0 :: .int .i64 0 :: .slice none 0 0 :: .slice none 0 0 :: .slice none 0 0 :: .int .i64 0 :: .int .i64 0 :: .int .i64 0 :: .slice none 0 0 :: .slice none 0 0 :: .int .i64 0 :: .int .i64 0 :: .int .i64 0 :: .slice none 0 0 :: .slice none 0 0 :: .slice none 0 0 :: [])) (List.toArray (.int .i64 7 :: .int .i64 0 :: .int .i64 0 :: .int .i64 8 :: .int .i64 0 :: .int .i64 0 :: .bool false :: .int .i64 0 :: .int .i64 0 :: .int .i64 0 :: .int .i64 0 :: .slice none 0 0 :: .int .i64 3 :: .int .i64 r.s0 :: .slice Ah r.hv.length ch :: .slice An r.nv.length cn :: .int .i64 0 :: .int .i64 0 :: .int .i64 0 :: .int .i64 0 :: .int .i64 0 :: .slice none 0 0 :: .slice none 0 0 :: .slice none 0 0 :: .int .i64 r.place :: .int .i64 r.whole :: .int .i64 r.fresh :: .slice A1 r.has.length c1 :: .slice A2 r.mis.length c2 :: .int .i64 r.seq :: .int .i64 r.safe :: .int .i64 r.room :: .slice A3 r.have_.length c3 :: .slice A4 r.need.length c4 :: .slice A5 r.again.length c5 :: [])) 31
  try rw [hgE]
  try rw [hwE]
  have HX : Hid (Blk wb gx 31 (List.toArray (.int .i64 7 :: .int .i64 0 :: .int .i64 0 :: .int .i64 8 :: .int .i64 0 :: .int .i64 0 :: .bool false :: .int .i64 0 :: .int .i64 0 :: .int .i64 0 :: .int .i64 0 :: .slice none 0 0 :: .int .i64 3 :: .int .i64 r.s0 :: .slice Ah r.hv.length ch :: .slice An r.nv.length cn :: .int .i64 0 :: .int .i64 0 :: .int .i64 0 :: .int .i64 0 :: .int .i64 0 :: .slice none 0 0 :: .slice none 0 0 :: .slice none 0 0 :: .int .i64 r.place :: .int .i64 r.whole :: .int .i64 r.fresh :: .slice A1 r.has.length c1 :: .slice A2 r.mis.length c2 :: .int .i64 r.seq :: .int .i64 r.safe :: .int .i64 r.room :: .slice A3 r.have_.length c3 :: .slice A4 r.need.length c4 :: .slice A5 r.again.length c5 :: []))) := Lib.hid hkE
  have HBb := Lib.hid (HB.out.trans (hbE.mono HB.out.size))
  have HRb := Lib.hid (show Rd wb wb.heap.size Ah r.hv.length (iv r.hv) ∧ Rd wb wb.heap.size An r.nv.length (iv r.nv) ∧ Rd wb wb.heap.size A1 r.has.length (iv r.has) ∧ Rd wb wb.heap.size A2 r.mis.length (iv r.mis) ∧ Rd wb wb.heap.size A3 r.have_.length (iv r.have_) ∧ Rd wb wb.heap.size A4 r.need.length (iv r.need) ∧ Rd wb wb.heap.size A5 r.again.length (iv r.again) from
    ⟨(HRS.out.1.below hbE).fit, (HRS.out.2.1.below hbE).fit, (HRS.out.2.2.1.below hbE).fit, (HRS.out.2.2.2.1.below hbE).fit, (HRS.out.2.2.2.2.1.below hbE).fit, (HRS.out.2.2.2.2.2.1.below hbE).fit, (HRS.out.2.2.2.2.2.2.below hbE).fit⟩)
  have d24 : wb.cell? ⟨gx, 24, none⟩ = some (.int .i64 r.place) := hkE.cell 24
  have d25 : wb.cell? ⟨gx, 25, none⟩ = some (.int .i64 r.whole) := hkE.cell 25
  have d26 : wb.cell? ⟨gx, 26, none⟩ = some (.int .i64 r.fresh) := hkE.cell 26
  have d27 : wb.cell? ⟨gx, 27, none⟩ = some (.slice A1 r.has.length c1) := hkE.cell 27
  have d28 : wb.cell? ⟨gx, 28, none⟩ = some (.slice A2 r.mis.length c2) := hkE.cell 28
  have HR24 := Lib.hid (range24b hkE (Below.refl _ _))
  clear hgE hwE hbE hkE HRG HRS HB
  have CP : Hid (Calls Try.prog 7 #[.agg #[.int .i64 7, .int .i64 0, .int .i64 0, .int .i64 8, .int .i64 0, .int .i64 0, .bool false, .int .i64 0, .int .i64 0, .int .i64 0, .int .i64 0, .slice none 0 0, .int .i64 3, .int .i64 r.s0, .slice Ah r.hv.length ch, .slice An r.nv.length cn, .int .i64 0, .int .i64 0, .int .i64 0, .int .i64 0, .int .i64 0, .slice none 0 0, .slice none 0 0, .slice none 0 0], .int .i64 1, .int .i64 r.place, .int .i64 2, .int .i64 r.whole, .int .i64 r.fresh, .slice A1 r.has.length c1, .slice A2 r.mis.length c2] wb (GotP wb wb r.u r.again)) := Lib.hid (by
    have h1 := HLN.out; have h2 := HBD.out
    exact pass17 wb (a := ⟨none, 0, Ah, ch, An, cn, CA.zero⟩) (m := r.m) 1 r.place 2 r.whole r.fresh (has := r.has) (mis := r.mis) Cm.Fits.zero (by show ([] : List Nat).length ≤ _; simp) (show r.hv.length ≤ 1000 by omega) (show r.nv.length ≤ 1000 by omega)
      ⟨Rd.none_ _ _ _, HRb.out.1, HRb.out.2.1, RdC.zero _ _, HKK.out.1, HKK.out.2⟩ HRb.out.2.2.1 HRb.out.2.2.2.1 (by omega) (by omega) (show -1000000 ≤ r.s0 ∧ r.s0 ≤ 1000000 by omega) (show -1000000 ≤ Tk.safe r.hv ∧ Tk.safe r.hv ≤ 1000000 by omega) (show -1000000 ≤ (3 : Int) ∧ (3 : Int) ≤ 1000000 by decide) (by omega) HOK.out.1 HOK.out.2.1)
  go_upto_region 5 with (first
    | (refine wpList_load_mid rfl 29 (.tmp 94) rfl gx 0 rfl [.int .i64 7, .int .i64 0, .int .i64 0, .int .i64 8, .int .i64 0, .int .i64 0, .bool false, .int .i64 0, .int .i64 0, .int .i64 0, .int .i64 0, .slice none 0 0, .int .i64 3, .int .i64 r.s0, .slice Ah r.hv.length ch, .slice An r.nv.length cn, .int .i64 0, .int .i64 0, .int .i64 0, .int .i64 0, .int .i64 0, .slice none 0 0, .slice none 0 0, .slice none 0 0] _ HR24.out Try.underlying29 rfl (by kernel_rfl) ?_)
    | (go_at_call 7; refine CP.out.mono ?_; rintro e x4 ⟨au, A9, c9, rfl, hoU, hoI, hBU, hbU⟩
       have eU : msgV au r.u = .agg #[.int .i64 7, .int .i64 1, .int .i64 2, .int .i64 8, .int .i64 0, .int .i64 0, .bool false, .int .i64 0, .int .i64 0, .int .i64 0, .int .i64 0, .slice au.Ad 0 au.cd, .int .i64 4, .int .i64 r.seq, .slice au.Ah r.have_.length au.ch, .slice au.An r.need.length au.cn, .int .i64 0, .int .i64 0, .int .i64 0, .int .i64 0, .int .i64 0, .slice au.c.Ak 0 au.c.ck, .slice au.c.Av 0 au.c.cv, .slice au.c.Ao 0 au.c.co] := rfl
       rw [eU]
       clear eU
       have HOU := Lib.hid hoU
       have HOI := Lib.hid hoI
       have HBU := Lib.hid hbU
       clear hoU hoI hBU hbU)
    | (refine wpList_store_row rfl 29 (.tmp 6) (.tmp 107) rfl x4.heap.size #[.int .i64 7, .int .i64 1, .int .i64 2, .int .i64 8, .int .i64 0, .int .i64 0, .bool false, .int .i64 0, .int .i64 0, .int .i64 0, .int .i64 0, .slice au.Ad 0 au.cd, .int .i64 4, .int .i64 r.seq, .slice au.Ah r.have_.length au.ch, .slice au.An r.need.length au.cn, .int .i64 0, .int .i64 0, .int .i64 0, .int .i64 0, .int .i64 0, .slice au.c.Ak 0 au.c.ck, .slice au.c.Av 0 au.c.cv, .slice au.c.Ao 0 au.c.co] rfl rfl 29 #[.int .i64 0, .int .i64 0, .int .i64 0, .int .i64 0, .int .i64 0, .int .i64 0, .bool false, .int .i64 0, .int .i64 0, .int .i64 0, .int .i64 0, .slice none 0 0, .int .i64 0, .int .i64 0, .slice none 0 0, .slice none 0 0, .int .i64 0, .int .i64 0, .int .i64 0, .int .i64 0, .int .i64 0, .slice none 0 0, .slice none 0 0, .slice none 0 0] (Blk.new x4 29 #[.int .i64 0, .int .i64 0, .int .i64 0, .int .i64 0, .int .i64 0, .int .i64 0, .bool false, .int .i64 0, .int .i64 0, .int .i64 0, .int .i64 0, .slice none 0 0, .int .i64 0, .int .i64 0, .slice none 0 0, .slice none 0 0, .int .i64 0, .int .i64 0, .int .i64 0, .int .i64 0, .int .i64 0, .slice none 0 0, .slice none 0 0, .slice none 0 0]) (by kernel_rfl) rfl (by kernel_rfl) ?_)
    | fail)
  obtain ⟨g6, y, hgE, hwE, hbE, hkE⟩ := boxed x4 #[.int .i64 0, .int .i64 0, .int .i64 0, .int .i64 0, .int .i64 0, .int .i64 0, .bool false, .int .i64 0, .int .i64 0, .int .i64 0, .int .i64 0, .slice none 0 0, .int .i64 0, .int .i64 0, .slice none 0 0, .slice none 0 0, .int .i64 0, .int .i64 0, .int .i64 0, .int .i64 0, .int .i64 0, .slice none 0 0, .slice none 0 0, .slice none 0 0] #[.int .i64 7, .int .i64 1, .int .i64 2, .int .i64 8, .int .i64 0, .int .i64 0, .bool false, .int .i64 0, .int .i64 0, .int .i64 0, .int .i64 0, .slice au.Ad 0 au.cd, .int .i64 4, .int .i64 r.seq, .slice au.Ah r.have_.length au.ch, .slice au.An r.need.length au.cn, .int .i64 0, .int .i64 0, .int .i64 0, .int .i64 0, .int .i64 0, .slice au.c.Ak 0 au.c.ck, .slice au.c.Av 0 au.c.cv, .slice au.c.Ao 0 au.c.co] 29
  try rw [hgE]
  try rw [hwE]
  have hby : Below wb.heap.size wb y := HBU.out.trans (hbE.mono HBU.out.size)
  have HS : Hid (FsT w y gx g6 ch cn c1 c2 c3 c4 c5 c9 Ah An A1 A2 A3 A4 A5 A9 au r) := Lib.hid ⟨HX.out.below hby, hkE, HBb.out.trans (hby.mono HBb.out.size)⟩
  have HEND : Hid (Below w.heap.size w y) := Lib.hid HS.out.bel
  have HRY := Lib.hid (show Rd y y.heap.size Ah r.hv.length (iv r.hv) ∧ Rd y y.heap.size A3 r.have_.length (iv r.have_) ∧ Rd y y.heap.size A4 r.need.length (iv r.need) ∧ Rd y y.heap.size A5 r.again.length (iv r.again) ∧ Rd y y.heap.size au.Ah r.have_.length (iv r.have_) ∧ Rd y y.heap.size au.An r.need.length (iv r.need) ∧ Rd y y.heap.size A9 r.again.length (iv r.again) from
    ⟨(HRb.out.1.below hby).fit, (HRb.out.2.2.2.2.1.below hby).fit, (HRb.out.2.2.2.2.2.1.below hby).fit, (HRb.out.2.2.2.2.2.2.below hby).fit, ((Rd.own_ HOU.out.h).below hbE).fit, ((Rd.own_ HOU.out.n).below hbE).fit, ((Rd.own_ HOI.out).below hbE).fit⟩)
  clear hgE hwE hbE hkE hby HX HBb HRb HOU HOI HBU CP HR24 d24 d25 d26 d27 d28
  have CSF : Hid (∀ w1, Below y.heap.size y w1 → Calls Try.prog 8 #[.agg #[.int .i64 7, .int .i64 1, .int .i64 2, .int .i64 8, .int .i64 0, .int .i64 0, .bool false, .int .i64 0, .int .i64 0, .int .i64 0, .int .i64 0, .slice au.Ad 0 au.cd, .int .i64 4, .int .i64 r.seq, .slice au.Ah r.have_.length au.ch, .slice au.An r.need.length au.cn, .int .i64 0, .int .i64 0, .int .i64 0, .int .i64 0, .int .i64 0, .slice au.c.Ak 0 au.c.ck, .slice au.c.Av 0 au.c.cv, .slice au.c.Ao 0 au.c.co]] w1 fun e w' => e = .returned (.int .i64 r.safe) ∧ Below w1.heap.size w1 w') := Lib.hid (fun w1 hb => safe17 (a := au) (m := r.u) w1 HOK.out.2.2.1 (HRY.out.2.2.2.2.1.below hb) (show r.have_.length ≤ 100000 by have := HLN.out; omega))
  have CRM : Hid (∀ w1, Below y.heap.size y w1 → Calls Try.prog 9 #[.agg #[.int .i64 7, .int .i64 0, .int .i64 0, .int .i64 8, .int .i64 0, .int .i64 0, .bool false, .int .i64 0, .int .i64 0, .int .i64 0, .int .i64 0, .slice none 0 0, .int .i64 3, .int .i64 r.s0, .slice Ah r.hv.length ch, .slice An r.nv.length cn, .int .i64 0, .int .i64 0, .int .i64 0, .int .i64 0, .int .i64 0, .slice none 0 0, .slice none 0 0, .slice none 0 0]] w1 fun e w' => e = .returned (.int .i64 r.room) ∧ Below w1.heap.size w1 w') := Lib.hid (fun w1 hb => by
    have h1 := HLN.out; have h2 := HBD.out
    exact room17 (a := ⟨none, 0, Ah, ch, An, cn, CA.zero⟩) (m := r.m) w1 HOK.out.2.2.2 (HRY.out.1.below hb) (show r.hv.length ≤ 100000 by omega) (show -1099511627776 ≤ r.s0 ∧ r.s0 ≤ 1099511627776 by omega) (show -1099511627776 ≤ Tk.safe r.hv ∧ Tk.safe r.hv ≤ 1099511627776 by omega))
  have CS1 := Lib.hid (fun w1 (hb : Below y.heap.size y w1) => same17 (c := au.ch) (c' := c3) HRY.out.2.2.2.2.1 HRY.out.2.1 (by have := HLN.out; omega) (by have := HLN.out; omega) hb)
  have CS2 := Lib.hid (fun w1 (hb : Below y.heap.size y w1) => same17 (c := au.cn) (c' := c4) HRY.out.2.2.2.2.2.1 HRY.out.2.2.1 (by have := HLN.out; omega) (by have := HLN.out; omega) hb)
  have CS3 := Lib.hid (fun w1 (hb : Below y.heap.size y w1) => same17 (c := c9) (c' := c5) HRY.out.2.2.2.2.2.2 HRY.out.2.2.2.1 (by have := HLN.out; omega) (by have := HLN.out; omega) hb)
  have CAW := Lib.hid (fun w1 (hb : Below y.heap.size y w1) => awake17 w1)
  clear HRY HLN HBD HOK HKK hk0 c255
  refine region_invB (U0 := fun n => ([undef, undef, .bool false] : List Value).getD n undef) (frameTF gx g6 ch cn c1 c2 c3 c4 c5 c9 Ah An A1 A2 A3 A4 A5 A9 au r _ _ _ _ _ _ _ _ _ _ _ _ _ _ _ _ _ _ _ _ _ _ _ _ _ _ _ _ _ _ _ _ _ _ _ _ _ _ _ _ _ _ _ _ _ _ _ _ _ _ _ _ _ _ _ _ _ _ _ _ _ _ _ _ _ _ _ _ _ _ _ _ _ _ _ _ _ _ _ _ _ _ _ _ _ _ _ _ _ _ _ _ _ _ _ _ _ _ _ _ _ _ _ _ _) dstTF depsTF (fun _ => true) (VQ9 (kindsTF gx g6 ch cn c1 c2 c3 c4 c5 c9 Ah An A1 A2 A3 A4 A5 A9 au r)) (FrTF gx g6 ch cn c1 c2 c3 c4 c5 c9 Ah An A1 A2 A3 A4 A5 A9 au r) ?hm ?hb ?inj ?dst ?deps ?want ?put ?ev ?fr (VQ9.ext _) (Below.refl _ _) ?hok ?done
  case hok =>
    refine all_ops (AllFrom.cons ?s0 (AllFrom.cons ?s1 (AllFrom.cons ?s2 (AllFrom.cons ?s3 (AllFrom.cons ?s4 (AllFrom.cons ?s5 (AllFrom.cons ?s6 (AllFrom.cons ?s7 (AllFrom.cons ?s8 (AllFrom.cons ?s9 (AllFrom.cons ?s10 (AllFrom.cons ?s11 (AllFrom.cons ?s12 (AllFrom.cons ?s13 (AllFrom.cons ?s14 (AllFrom.cons ?s15 (AllFrom.cons ?s16 (AllFrom.cons ?s17 (AllFrom.cons ?s18 (AllFrom.cons ?s19 (AllFrom.cons ?s20 (AllFrom.cons ?s21 (AllFrom.cons ?s22 (AllFrom.cons ?s23 (AllFrom.cons ?s24 (AllFrom.cons ?s25 (AllFrom.cons ?s26 (AllFrom.cons ?s27 (AllFrom.cons ?s28 (AllFrom.cons ?s29 (AllFrom.cons ?s30 (AllFrom.cons ?s31 (AllFrom.cons ?s32 (AllFrom.cons ?s33 (AllFrom.cons ?s34 (AllFrom.cons ?s35 (AllFrom.cons ?s36 (AllFrom.cons ?s37 (AllFrom.cons ?s38 (AllFrom.cons ?s39 (AllFrom.cons ?s40 (AllFrom.cons ?s41 (AllFrom.cons ?s42 (AllFrom.cons ?s43 (AllFrom.cons ?s44 (AllFrom.cons ?s45 (AllFrom.cons ?s46 (AllFrom.cons ?s47 (AllFrom.cons ?s48 (AllFrom.cons ?s49 (AllFrom.cons ?s50 (AllFrom.cons ?s51 (AllFrom.cons ?s52 (AllFrom.cons ?s53 (AllFrom.cons ?s54 (AllFrom.cons ?s55 (AllFrom.cons ?s56 (AllFrom.cons ?s57 (AllFrom.cons ?s58 (AllFrom.cons ?s59 (AllFrom.cons ?s60 (AllFrom.cons ?s61 (AllFrom.cons ?s62 (AllFrom.cons ?s63 AllFrom.nil))))))))))))))))))))))))))))))))))))))))))))))))))))))))))))))))
    case s0 =>
      intro a w1 hF hB hdep K hK
      rw [if_pos rfl]
      have f6 : a.tmps[6]?.getD undef = .pointer (some ⟨g6, 0, none⟩) := ev_tmpE hF.2.1
      go_simp
      exact hK.out _ _ (Below.refl _ _) hB rfl
    case s1 =>
      intro a w1 hF hB hdep K hK
      rw [if_pos rfl]
      have e0 : a.tmps[109]?.getD undef = .pointer (some ⟨g6, 13, none⟩) := ev_tmpE (show a.eval (.tmp 109) = .pointer (some ⟨g6, 13, none⟩) from hdep 0 (by decide))
      have qq := (Below.cell hB (p := ⟨g6, 13, none⟩) HS.out.k6.lt).trans (HS.out.k6.cell 13)
      simp at qq
      go_simp
      exact hK.out _ _ (Below.refl _ _) hB rfl
    case s2 =>
      intro a w1 hF hB hdep K hK
      rw [if_pos rfl]
      have f5 : a.tmps[5]?.getD undef = .pointer (some ⟨gx, 0, none⟩) := ev_tmpE hF.1
      go_simp
      exact hK.out _ _ (Below.refl _ _) hB rfl
    case s3 =>
      intro a w1 hF hB hdep K hK
      rw [if_pos rfl]
      have e2 : a.tmps[111]?.getD undef = .pointer (some ⟨gx, 29, none⟩) := ev_tmpE (show a.eval (.tmp 111) = .pointer (some ⟨gx, 29, none⟩) from hdep 2 (by decide))
      have qq := (Below.cell hB (p := ⟨gx, 29, none⟩) HS.out.k5.lt).trans (HS.out.k5.cell 29)
      simp at qq
      go_simp
      exact hK.out _ _ (Below.refl _ _) hB rfl
    case s4 =>
      intro a w1 hF hB hdep K hK
      rw [if_pos rfl]
      have e1 : a.tmps[110]?.getD undef = .int .i64 r.seq := ev_tmpE (show a.eval (.tmp 110) = .int .i64 r.seq from hdep 1 (by decide))
      have e3 : a.tmps[112]?.getD undef = .int .i64 r.seq := ev_tmpE (show a.eval (.tmp 112) = .int .i64 r.seq from hdep 3 (by decide))
      go_simp
      exact hK.out _ _ (Below.refl _ _) hB rfl
    case s5 =>
      intro a w1 hF hB hdep K hK
      rw [if_pos rfl]
      have e4 : a.tmps[113]?.getD undef = .bool true := ev_tmpE (show a.eval (.tmp 113) = .bool true from hdep 4 (by decide))
      go_simp
      exact hK.out _ _ (Below.refl _ _) hB rfl
    case s6 =>
      intro a w1 hF hB hdep K hK
      rw [if_pos rfl]
      have f6 : a.tmps[6]?.getD undef = .pointer (some ⟨g6, 0, none⟩) := ev_tmpE hF.2.1
      refine wp_load_mid 29 (.tmp 6) rfl g6 0 (by first | exact hF.2.1 | exact hF.1 | exact hdep 0 (by decide)) [.int .i64 7, .int .i64 1, .int .i64 2, .int .i64 8, .int .i64 0, .int .i64 0, .bool false, .int .i64 0, .int .i64 0, .int .i64 0, .int .i64 0, .slice au.Ad 0 au.cd, .int .i64 4, .int .i64 r.seq, .slice au.Ah r.have_.length au.ch, .slice au.An r.need.length au.cn, .int .i64 0, .int .i64 0, .int .i64 0, .int .i64 0, .int .i64 0, .slice au.c.Ak 0 au.c.ck, .slice au.c.Av 0 au.c.cv, .slice au.c.Ao 0 au.c.co] _ (HS.out.r6 hB) Try.underlying29 rfl (by kernel_rfl) ?_
      exact hK.out _ _ (Below.refl _ _) hB rfl
    case s7 =>
      intro a w1 hF hB hdep K hK
      rw [if_pos rfl]
      have e6 : a.tmps[115]?.getD undef = .agg #[.int .i64 7, .int .i64 1, .int .i64 2, .int .i64 8, .int .i64 0, .int .i64 0, .bool false, .int .i64 0, .int .i64 0, .int .i64 0, .int .i64 0, .slice au.Ad 0 au.cd, .int .i64 4, .int .i64 r.seq, .slice au.Ah r.have_.length au.ch, .slice au.An r.need.length au.cn, .int .i64 0, .int .i64 0, .int .i64 0, .int .i64 0, .int .i64 0, .slice au.c.Ak 0 au.c.ck, .slice au.c.Av 0 au.c.cv, .slice au.c.Ao 0 au.c.co] := ev_tmpE (show a.eval (.tmp 115) = .agg #[.int .i64 7, .int .i64 1, .int .i64 2, .int .i64 8, .int .i64 0, .int .i64 0, .bool false, .int .i64 0, .int .i64 0, .int .i64 0, .int .i64 0, .slice au.Ad 0 au.cd, .int .i64 4, .int .i64 r.seq, .slice au.Ah r.have_.length au.ch, .slice au.An r.need.length au.cn, .int .i64 0, .int .i64 0, .int .i64 0, .int .i64 0, .int .i64 0, .slice au.c.Ak 0 au.c.ck, .slice au.c.Av 0 au.c.cv, .slice au.c.Ao 0 au.c.co] from hdep 6 (by decide))
      go_simp
      go_at_call 8
      refine (CSF.out w1 hB).mono ?_
      rintro en w9 ⟨rfl, hb9⟩
      go_simp
      exact hK.out _ _ hb9 (hB.trans (hb9.mono hB.size)) rfl
    case s8 =>
      intro a w1 hF hB hdep K hK
      rw [if_pos rfl]
      have f5 : a.tmps[5]?.getD undef = .pointer (some ⟨gx, 0, none⟩) := ev_tmpE hF.1
      go_simp
      exact hK.out _ _ (Below.refl _ _) hB rfl
    case s9 =>
      intro a w1 hF hB hdep K hK
      rw [if_pos rfl]
      have e8 : a.tmps[117]?.getD undef = .pointer (some ⟨gx, 30, none⟩) := ev_tmpE (show a.eval (.tmp 117) = .pointer (some ⟨gx, 30, none⟩) from hdep 8 (by decide))
      have qq := (Below.cell hB (p := ⟨gx, 30, none⟩) HS.out.k5.lt).trans (HS.out.k5.cell 30)
      simp at qq
      go_simp
      exact hK.out _ _ (Below.refl _ _) hB rfl
    case s10 =>
      intro a w1 hF hB hdep K hK
      rw [if_pos rfl]
      have e7 : a.tmps[116]?.getD undef = .int .i64 r.safe := ev_tmpE (show a.eval (.tmp 116) = .int .i64 r.safe from hdep 7 (by decide))
      have e9 : a.tmps[118]?.getD undef = .int .i64 r.safe := ev_tmpE (show a.eval (.tmp 118) = .int .i64 r.safe from hdep 9 (by decide))
      go_simp
      exact hK.out _ _ (Below.refl _ _) hB rfl
    case s11 =>
      intro a w1 hF hB hdep K hK
      rw [if_pos rfl]
      have e5 : a.tmps[114]?.getD undef = .bool true := ev_tmpE (show a.eval (.tmp 114) = .bool true from hdep 5 (by decide))
      have e10 : a.tmps[119]?.getD undef = .bool true := ev_tmpE (show a.eval (.tmp 119) = .bool true from hdep 10 (by decide))
      go_simp
      exact hK.out _ _ (Below.refl _ _) hB rfl
    case s12 =>
      intro a w1 hF hB hdep K hK
      rw [if_pos rfl]
      have e11 : a.tmps[120]?.getD undef = .bool true := ev_tmpE (show a.eval (.tmp 120) = .bool true from hdep 11 (by decide))
      go_simp
      exact hK.out _ _ (Below.refl _ _) hB rfl
    case s13 =>
      intro a w1 hF hB hdep K hK
      rw [if_pos rfl]
      have f5 : a.tmps[5]?.getD undef = .pointer (some ⟨gx, 0, none⟩) := ev_tmpE hF.1
      go_simp
      exact hK.out _ _ (Below.refl _ _) hB rfl
    case s14 =>
      intro a w1 hF hB hdep K hK
      rw [if_pos rfl]
      have e13 : a.tmps[122]?.getD undef = .pointer (some ⟨gx, 0, none⟩) := ev_tmpE (show a.eval (.tmp 122) = .pointer (some ⟨gx, 0, none⟩) from hdep 13 (by decide))
      refine wp_load_mid 29 (.tmp 122) rfl gx 0 (by first | exact hF.2.1 | exact hF.1 | exact hdep 13 (by decide)) [.int .i64 7, .int .i64 0, .int .i64 0, .int .i64 8, .int .i64 0, .int .i64 0, .bool false, .int .i64 0, .int .i64 0, .int .i64 0, .int .i64 0, .slice none 0 0, .int .i64 3, .int .i64 r.s0, .slice Ah r.hv.length ch, .slice An r.nv.length cn, .int .i64 0, .int .i64 0, .int .i64 0, .int .i64 0, .int .i64 0, .slice none 0 0, .slice none 0 0, .slice none 0 0] _ (HS.out.r5 hB) Try.underlying29 rfl (by kernel_rfl) ?_
      exact hK.out _ _ (Below.refl _ _) hB rfl
    case s15 =>
      intro a w1 hF hB hdep K hK
      rw [if_pos rfl]
      have e14 : a.tmps[123]?.getD undef = .agg #[.int .i64 7, .int .i64 0, .int .i64 0, .int .i64 8, .int .i64 0, .int .i64 0, .bool false, .int .i64 0, .int .i64 0, .int .i64 0, .int .i64 0, .slice none 0 0, .int .i64 3, .int .i64 r.s0, .slice Ah r.hv.length ch, .slice An r.nv.length cn, .int .i64 0, .int .i64 0, .int .i64 0, .int .i64 0, .int .i64 0, .slice none 0 0, .slice none 0 0, .slice none 0 0] := ev_tmpE (show a.eval (.tmp 123) = .agg #[.int .i64 7, .int .i64 0, .int .i64 0, .int .i64 8, .int .i64 0, .int .i64 0, .bool false, .int .i64 0, .int .i64 0, .int .i64 0, .int .i64 0, .slice none 0 0, .int .i64 3, .int .i64 r.s0, .slice Ah r.hv.length ch, .slice An r.nv.length cn, .int .i64 0, .int .i64 0, .int .i64 0, .int .i64 0, .int .i64 0, .slice none 0 0, .slice none 0 0, .slice none 0 0] from hdep 14 (by decide))
      go_simp
      go_at_call 9
      refine (CRM.out w1 hB).mono ?_
      rintro en w9 ⟨rfl, hb9⟩
      go_simp
      exact hK.out _ _ hb9 (hB.trans (hb9.mono hB.size)) rfl
    case s16 =>
      intro a w1 hF hB hdep K hK
      rw [if_pos rfl]
      have f5 : a.tmps[5]?.getD undef = .pointer (some ⟨gx, 0, none⟩) := ev_tmpE hF.1
      go_simp
      exact hK.out _ _ (Below.refl _ _) hB rfl
    case s17 =>
      intro a w1 hF hB hdep K hK
      rw [if_pos rfl]
      have e16 : a.tmps[125]?.getD undef = .pointer (some ⟨gx, 31, none⟩) := ev_tmpE (show a.eval (.tmp 125) = .pointer (some ⟨gx, 31, none⟩) from hdep 16 (by decide))
      have qq := (Below.cell hB (p := ⟨gx, 31, none⟩) HS.out.k5.lt).trans (HS.out.k5.cell 31)
      simp at qq
      go_simp
      exact hK.out _ _ (Below.refl _ _) hB rfl
    case s18 =>
      intro a w1 hF hB hdep K hK
      rw [if_pos rfl]
      have e15 : a.tmps[124]?.getD undef = .int .i64 r.room := ev_tmpE (show a.eval (.tmp 124) = .int .i64 r.room from hdep 15 (by decide))
      have e17 : a.tmps[126]?.getD undef = .int .i64 r.room := ev_tmpE (show a.eval (.tmp 126) = .int .i64 r.room from hdep 17 (by decide))
      go_simp
      exact hK.out _ _ (Below.refl _ _) hB rfl
    case s19 =>
      intro a w1 hF hB hdep K hK
      rw [if_pos rfl]
      have e12 : a.tmps[121]?.getD undef = .bool true := ev_tmpE (show a.eval (.tmp 121) = .bool true from hdep 12 (by decide))
      have e18 : a.tmps[127]?.getD undef = .bool true := ev_tmpE (show a.eval (.tmp 127) = .bool true from hdep 18 (by decide))
      go_simp
      exact hK.out _ _ (Below.refl _ _) hB rfl
    case s20 =>
      intro a w1 hF hB hdep K hK
      rw [if_pos rfl]
      have e19 : a.tmps[128]?.getD undef = .bool true := ev_tmpE (show a.eval (.tmp 128) = .bool true from hdep 19 (by decide))
      go_simp
      exact hK.out _ _ (Below.refl _ _) hB rfl
    case s21 =>
      intro a w1 hF hB hdep K hK
      rw [if_pos rfl]
      have f6 : a.tmps[6]?.getD undef = .pointer (some ⟨g6, 0, none⟩) := ev_tmpE hF.2.1
      go_simp
      exact hK.out _ _ (Below.refl _ _) hB rfl
    case s22 =>
      intro a w1 hF hB hdep K hK
      rw [if_pos rfl]
      have e21 : a.tmps[130]?.getD undef = .pointer (some ⟨g6, 14, none⟩) := ev_tmpE (show a.eval (.tmp 130) = .pointer (some ⟨g6, 14, none⟩) from hdep 21 (by decide))
      have qq := (Below.cell hB (p := ⟨g6, 14, none⟩) HS.out.k6.lt).trans (HS.out.k6.cell 14)
      simp at qq
      go_simp
      exact hK.out _ _ (Below.refl _ _) hB rfl
    case s23 =>
      intro a w1 hF hB hdep K hK
      rw [if_pos rfl]
      have f5 : a.tmps[5]?.getD undef = .pointer (some ⟨gx, 0, none⟩) := ev_tmpE hF.1
      go_simp
      exact hK.out _ _ (Below.refl _ _) hB rfl
    case s24 =>
      intro a w1 hF hB hdep K hK
      rw [if_pos rfl]
      have e23 : a.tmps[132]?.getD undef = .pointer (some ⟨gx, 32, none⟩) := ev_tmpE (show a.eval (.tmp 132) = .pointer (some ⟨gx, 32, none⟩) from hdep 23 (by decide))
      have qq := (Below.cell hB (p := ⟨gx, 32, none⟩) HS.out.k5.lt).trans (HS.out.k5.cell 32)
      simp at qq
      go_simp
      exact hK.out _ _ (Below.refl _ _) hB rfl
    case s25 =>
      intro a w1 hF hB hdep K hK
      rw [if_pos rfl]
      have e22 : a.tmps[131]?.getD undef = .slice au.Ah r.have_.length au.ch := ev_tmpE (show a.eval (.tmp 131) = .slice au.Ah r.have_.length au.ch from hdep 22 (by decide))
      have e24 : a.tmps[133]?.getD undef = .slice A3 r.have_.length c3 := ev_tmpE (show a.eval (.tmp 133) = .slice A3 r.have_.length c3 from hdep 24 (by decide))
      go_simp
      go_at_call 10
      refine (CS1.out w1 hB).mono ?_
      rintro en w9 ⟨rfl, hb9⟩
      go_simp
      exact hK.out _ _ hb9 (hB.trans (hb9.mono hB.size)) rfl
    case s26 =>
      intro a w1 hF hB hdep K hK
      rw [if_pos rfl]
      have e20 : a.tmps[129]?.getD undef = .bool true := ev_tmpE (show a.eval (.tmp 129) = .bool true from hdep 20 (by decide))
      have e25 : a.tmps[134]?.getD undef = .bool true := ev_tmpE (show a.eval (.tmp 134) = .bool true from hdep 25 (by decide))
      go_simp
      exact hK.out _ _ (Below.refl _ _) hB rfl
    case s27 =>
      intro a w1 hF hB hdep K hK
      rw [if_pos rfl]
      have e26 : a.tmps[135]?.getD undef = .bool true := ev_tmpE (show a.eval (.tmp 135) = .bool true from hdep 26 (by decide))
      go_simp
      exact hK.out _ _ (Below.refl _ _) hB rfl
    case s28 =>
      intro a w1 hF hB hdep K hK
      rw [if_pos rfl]
      have f6 : a.tmps[6]?.getD undef = .pointer (some ⟨g6, 0, none⟩) := ev_tmpE hF.2.1
      go_simp
      exact hK.out _ _ (Below.refl _ _) hB rfl
    case s29 =>
      intro a w1 hF hB hdep K hK
      rw [if_pos rfl]
      have e28 : a.tmps[137]?.getD undef = .pointer (some ⟨g6, 15, none⟩) := ev_tmpE (show a.eval (.tmp 137) = .pointer (some ⟨g6, 15, none⟩) from hdep 28 (by decide))
      have qq := (Below.cell hB (p := ⟨g6, 15, none⟩) HS.out.k6.lt).trans (HS.out.k6.cell 15)
      simp at qq
      go_simp
      exact hK.out _ _ (Below.refl _ _) hB rfl
    case s30 =>
      intro a w1 hF hB hdep K hK
      rw [if_pos rfl]
      have f5 : a.tmps[5]?.getD undef = .pointer (some ⟨gx, 0, none⟩) := ev_tmpE hF.1
      go_simp
      exact hK.out _ _ (Below.refl _ _) hB rfl
    case s31 =>
      intro a w1 hF hB hdep K hK
      rw [if_pos rfl]
      have e30 : a.tmps[139]?.getD undef = .pointer (some ⟨gx, 33, none⟩) := ev_tmpE (show a.eval (.tmp 139) = .pointer (some ⟨gx, 33, none⟩) from hdep 30 (by decide))
      have qq := (Below.cell hB (p := ⟨gx, 33, none⟩) HS.out.k5.lt).trans (HS.out.k5.cell 33)
      simp at qq
      go_simp
      exact hK.out _ _ (Below.refl _ _) hB rfl
    case s32 =>
      intro a w1 hF hB hdep K hK
      rw [if_pos rfl]
      have e29 : a.tmps[138]?.getD undef = .slice au.An r.need.length au.cn := ev_tmpE (show a.eval (.tmp 138) = .slice au.An r.need.length au.cn from hdep 29 (by decide))
      have e31 : a.tmps[140]?.getD undef = .slice A4 r.need.length c4 := ev_tmpE (show a.eval (.tmp 140) = .slice A4 r.need.length c4 from hdep 31 (by decide))
      go_simp
      go_at_call 10
      refine (CS2.out w1 hB).mono ?_
      rintro en w9 ⟨rfl, hb9⟩
      go_simp
      exact hK.out _ _ hb9 (hB.trans (hb9.mono hB.size)) rfl
    case s33 =>
      intro a w1 hF hB hdep K hK
      rw [if_pos rfl]
      have e27 : a.tmps[136]?.getD undef = .bool true := ev_tmpE (show a.eval (.tmp 136) = .bool true from hdep 27 (by decide))
      have e32 : a.tmps[141]?.getD undef = .bool true := ev_tmpE (show a.eval (.tmp 141) = .bool true from hdep 32 (by decide))
      go_simp
      exact hK.out _ _ (Below.refl _ _) hB rfl
    case s34 =>
      intro a w1 hF hB hdep K hK
      rw [if_pos rfl]
      have e33 : a.tmps[142]?.getD undef = .bool true := ev_tmpE (show a.eval (.tmp 142) = .bool true from hdep 33 (by decide))
      go_simp
      exact hK.out _ _ (Below.refl _ _) hB rfl
    case s35 =>
      intro a w1 hF hB hdep K hK
      rw [if_pos rfl]
      have f7 : a.tmps[7]?.getD undef = .slice A9 r.again.length c9 := ev_tmpE hF.2.2
      go_simp
      exact hK.out _ _ (Below.refl _ _) hB rfl
    case s36 =>
      intro a w1 hF hB hdep K hK
      rw [if_pos rfl]
      have f5 : a.tmps[5]?.getD undef = .pointer (some ⟨gx, 0, none⟩) := ev_tmpE hF.1
      go_simp
      exact hK.out _ _ (Below.refl _ _) hB rfl
    case s37 =>
      intro a w1 hF hB hdep K hK
      rw [if_pos rfl]
      have e36 : a.tmps[145]?.getD undef = .pointer (some ⟨gx, 34, none⟩) := ev_tmpE (show a.eval (.tmp 145) = .pointer (some ⟨gx, 34, none⟩) from hdep 36 (by decide))
      have qq := (Below.cell hB (p := ⟨gx, 34, none⟩) HS.out.k5.lt).trans (HS.out.k5.cell 34)
      simp at qq
      go_simp
      exact hK.out _ _ (Below.refl _ _) hB rfl
    case s38 =>
      intro a w1 hF hB hdep K hK
      rw [if_pos rfl]
      have e35 : a.tmps[144]?.getD undef = .slice A9 r.again.length c9 := ev_tmpE (show a.eval (.tmp 144) = .slice A9 r.again.length c9 from hdep 35 (by decide))
      have e37 : a.tmps[146]?.getD undef = .slice A5 r.again.length c5 := ev_tmpE (show a.eval (.tmp 146) = .slice A5 r.again.length c5 from hdep 37 (by decide))
      go_simp
      go_at_call 10
      refine (CS3.out w1 hB).mono ?_
      rintro en w9 ⟨rfl, hb9⟩
      go_simp
      exact hK.out _ _ hb9 (hB.trans (hb9.mono hB.size)) rfl
    case s39 =>
      intro a w1 hF hB hdep K hK
      rw [if_pos rfl]
      have e34 : a.tmps[143]?.getD undef = .bool true := ev_tmpE (show a.eval (.tmp 143) = .bool true from hdep 34 (by decide))
      have e38 : a.tmps[147]?.getD undef = .bool true := ev_tmpE (show a.eval (.tmp 147) = .bool true from hdep 38 (by decide))
      go_simp
      exact hK.out _ _ (Below.refl _ _) hB rfl
    case s40 =>
      intro a w1 hF hB hdep K hK
      rw [if_pos rfl]
      have e39 : a.tmps[148]?.getD undef = .bool true := ev_tmpE (show a.eval (.tmp 148) = .bool true from hdep 39 (by decide))
      go_simp
      exact hK.out _ _ (Below.refl _ _) hB rfl
    case s41 =>
      intro a w1 hF hB hdep K hK
      rw [if_pos rfl]
      have f6 : a.tmps[6]?.getD undef = .pointer (some ⟨g6, 0, none⟩) := ev_tmpE hF.2.1
      go_simp
      exact hK.out _ _ (Below.refl _ _) hB rfl
    case s42 =>
      intro a w1 hF hB hdep K hK
      rw [if_pos rfl]
      have e41 : a.tmps[150]?.getD undef = .pointer (some ⟨g6, 12, none⟩) := ev_tmpE (show a.eval (.tmp 150) = .pointer (some ⟨g6, 12, none⟩) from hdep 41 (by decide))
      have qq := (Below.cell hB (p := ⟨g6, 12, none⟩) HS.out.k6.lt).trans (HS.out.k6.cell 12)
      simp at qq
      go_simp
      exact hK.out _ _ (Below.refl _ _) hB rfl
    case s43 =>
      intro a w1 hF hB hdep K hK
      rw [if_pos rfl]
      have e42 : a.tmps[151]?.getD undef = .int .i64 4 := ev_tmpE (show a.eval (.tmp 151) = .int .i64 4 from hdep 42 (by decide))
      go_simp
      exact hK.out _ _ (Below.refl _ _) hB rfl
    case s44 =>
      intro a w1 hF hB hdep K hK
      rw [if_pos rfl]
      have e40 : a.tmps[149]?.getD undef = .bool true := ev_tmpE (show a.eval (.tmp 149) = .bool true from hdep 40 (by decide))
      have e43 : a.tmps[152]?.getD undef = .bool true := ev_tmpE (show a.eval (.tmp 152) = .bool true from hdep 43 (by decide))
      go_simp
      exact hK.out _ _ (Below.refl _ _) hB rfl
    case s45 =>
      intro a w1 hF hB hdep K hK
      rw [if_pos rfl]
      have e44 : a.tmps[153]?.getD undef = .bool true := ev_tmpE (show a.eval (.tmp 153) = .bool true from hdep 44 (by decide))
      go_simp
      exact hK.out _ _ (Below.refl _ _) hB rfl
    case s46 =>
      intro a w1 hF hB hdep K hK
      rw [if_pos rfl]
      have f6 : a.tmps[6]?.getD undef = .pointer (some ⟨g6, 0, none⟩) := ev_tmpE hF.2.1
      go_simp
      exact hK.out _ _ (Below.refl _ _) hB rfl
    case s47 =>
      intro a w1 hF hB hdep K hK
      rw [if_pos rfl]
      have e46 : a.tmps[155]?.getD undef = .pointer (some ⟨g6, 1, none⟩) := ev_tmpE (show a.eval (.tmp 155) = .pointer (some ⟨g6, 1, none⟩) from hdep 46 (by decide))
      have qq := (Below.cell hB (p := ⟨g6, 1, none⟩) HS.out.k6.lt).trans (HS.out.k6.cell 1)
      simp at qq
      go_simp
      exact hK.out _ _ (Below.refl _ _) hB rfl
    case s48 =>
      intro a w1 hF hB hdep K hK
      rw [if_pos rfl]
      have e47 : a.tmps[156]?.getD undef = .int .i64 1 := ev_tmpE (show a.eval (.tmp 156) = .int .i64 1 from hdep 47 (by decide))
      go_simp
      exact hK.out _ _ (Below.refl _ _) hB rfl
    case s49 =>
      intro a w1 hF hB hdep K hK
      rw [if_pos rfl]
      have e45 : a.tmps[154]?.getD undef = .bool true := ev_tmpE (show a.eval (.tmp 154) = .bool true from hdep 45 (by decide))
      have e48 : a.tmps[157]?.getD undef = .bool true := ev_tmpE (show a.eval (.tmp 157) = .bool true from hdep 48 (by decide))
      go_simp
      exact hK.out _ _ (Below.refl _ _) hB rfl
    case s50 =>
      intro a w1 hF hB hdep K hK
      rw [if_pos rfl]
      have e49 : a.tmps[158]?.getD undef = .bool true := ev_tmpE (show a.eval (.tmp 158) = .bool true from hdep 49 (by decide))
      go_simp
      exact hK.out _ _ (Below.refl _ _) hB rfl
    case s51 =>
      intro a w1 hF hB hdep K hK
      rw [if_pos rfl]
      have f6 : a.tmps[6]?.getD undef = .pointer (some ⟨g6, 0, none⟩) := ev_tmpE hF.2.1
      go_simp
      exact hK.out _ _ (Below.refl _ _) hB rfl
    case s52 =>
      intro a w1 hF hB hdep K hK
      rw [if_pos rfl]
      have e51 : a.tmps[160]?.getD undef = .pointer (some ⟨g6, 2, none⟩) := ev_tmpE (show a.eval (.tmp 160) = .pointer (some ⟨g6, 2, none⟩) from hdep 51 (by decide))
      have qq := (Below.cell hB (p := ⟨g6, 2, none⟩) HS.out.k6.lt).trans (HS.out.k6.cell 2)
      simp at qq
      go_simp
      exact hK.out _ _ (Below.refl _ _) hB rfl
    case s53 =>
      intro a w1 hF hB hdep K hK
      rw [if_pos rfl]
      have e52 : a.tmps[161]?.getD undef = .int .i64 2 := ev_tmpE (show a.eval (.tmp 161) = .int .i64 2 from hdep 52 (by decide))
      go_simp
      exact hK.out _ _ (Below.refl _ _) hB rfl
    case s54 =>
      intro a w1 hF hB hdep K hK
      rw [if_pos rfl]
      have e50 : a.tmps[159]?.getD undef = .bool true := ev_tmpE (show a.eval (.tmp 159) = .bool true from hdep 50 (by decide))
      have e53 : a.tmps[162]?.getD undef = .bool true := ev_tmpE (show a.eval (.tmp 162) = .bool true from hdep 53 (by decide))
      go_simp
      exact hK.out _ _ (Below.refl _ _) hB rfl
    case s55 =>
      intro a w1 hF hB hdep K hK
      rw [if_pos rfl]
      have e54 : a.tmps[163]?.getD undef = .bool true := ev_tmpE (show a.eval (.tmp 163) = .bool true from hdep 54 (by decide))
      go_simp
      exact hK.out _ _ (Below.refl _ _) hB rfl
    case s56 =>
      intro a w1 hF hB hdep K hK
      rw [if_pos rfl]
      have f6 : a.tmps[6]?.getD undef = .pointer (some ⟨g6, 0, none⟩) := ev_tmpE hF.2.1
      go_simp
      exact hK.out _ _ (Below.refl _ _) hB rfl
    case s57 =>
      intro a w1 hF hB hdep K hK
      rw [if_pos rfl]
      have e56 : a.tmps[165]?.getD undef = .pointer (some ⟨g6, 3, none⟩) := ev_tmpE (show a.eval (.tmp 165) = .pointer (some ⟨g6, 3, none⟩) from hdep 56 (by decide))
      have qq := (Below.cell hB (p := ⟨g6, 3, none⟩) HS.out.k6.lt).trans (HS.out.k6.cell 3)
      simp at qq
      go_simp
      exact hK.out _ _ (Below.refl _ _) hB rfl
    case s58 =>
      intro a w1 hF hB hdep K hK
      rw [if_pos rfl]
      have e57 : a.tmps[166]?.getD undef = .int .i64 8 := ev_tmpE (show a.eval (.tmp 166) = .int .i64 8 from hdep 57 (by decide))
      go_simp
      exact hK.out _ _ (Below.refl _ _) hB rfl
    case s59 =>
      intro a w1 hF hB hdep K hK
      rw [if_pos rfl]
      have e55 : a.tmps[164]?.getD undef = .bool true := ev_tmpE (show a.eval (.tmp 164) = .bool true from hdep 55 (by decide))
      have e58 : a.tmps[167]?.getD undef = .bool true := ev_tmpE (show a.eval (.tmp 167) = .bool true from hdep 58 (by decide))
      go_simp
      exact hK.out _ _ (Below.refl _ _) hB rfl
    case s60 =>
      intro a w1 hF hB hdep K hK
      rw [if_pos rfl]
      have e59 : a.tmps[168]?.getD undef = .bool true := ev_tmpE (show a.eval (.tmp 168) = .bool true from hdep 59 (by decide))
      go_simp
      exact hK.out _ _ (Below.refl _ _) hB rfl
    case s61 =>
      intro a w1 hF hB hdep K hK
      rw [if_pos rfl]
      go_simp
      go_at_call 11
      refine (CAW.out w1 hB).mono ?_
      rintro en w9 ⟨rfl, hb9⟩
      go_simp
      exact hK.out _ _ hb9 (hB.trans (hb9.mono hB.size)) rfl
    case s62 =>
      intro a w1 hF hB hdep K hK
      rw [if_pos rfl]
      have e60 : a.tmps[169]?.getD undef = .bool true := ev_tmpE (show a.eval (.tmp 169) = .bool true from hdep 60 (by decide))
      have e61 : a.tmps[170]?.getD undef = .bool true := ev_tmpE (show a.eval (.tmp 170) = .bool true from hdep 61 (by decide))
      go_simp
      exact hK.out _ _ (Below.refl _ _) hB rfl
    case s63 =>
      intro a w1 hF hB hdep K hK
      rw [if_pos rfl]
      have e62 : a.tmps[171]?.getD undef = .bool true := ev_tmpE (show a.eval (.tmp 171) = .bool true from hdep 62 (by decide))
      go_simp
      exact hK.out _ _ (Below.refl _ _) hB rfl
  case hm => kernel_rfl
  case hb => kernel_rfl
  case inj =>
    intro i j hi hj h
    have h1 : ((List.range 64).all fun i => (List.range 64).all fun j => !(dstTF i == dstTF j) || (i == j)) = true := by kernel_rfl
    have h2 := List.all_eq_true.1 (List.all_eq_true.1 h1 i (List.mem_range.2 hi)) j (List.mem_range.2 hj)
    simpa [h] using h2
  case dst => exact all_ops (AllFrom.cons rfl (AllFrom.cons rfl (AllFrom.cons rfl (AllFrom.cons rfl (AllFrom.cons rfl (AllFrom.cons rfl (AllFrom.cons rfl (AllFrom.cons rfl (AllFrom.cons rfl (AllFrom.cons rfl (AllFrom.cons rfl (AllFrom.cons rfl (AllFrom.cons rfl (AllFrom.cons rfl (AllFrom.cons rfl (AllFrom.cons rfl (AllFrom.cons rfl (AllFrom.cons rfl (AllFrom.cons rfl (AllFrom.cons rfl (AllFrom.cons rfl (AllFrom.cons rfl (AllFrom.cons rfl (AllFrom.cons rfl (AllFrom.cons rfl (AllFrom.cons rfl (AllFrom.cons rfl (AllFrom.cons rfl (AllFrom.cons rfl (AllFrom.cons rfl (AllFrom.cons rfl (AllFrom.cons rfl (AllFrom.cons rfl (AllFrom.cons rfl (AllFrom.cons rfl (AllFrom.cons rfl (AllFrom.cons rfl (AllFrom.cons rfl (AllFrom.cons rfl (AllFrom.cons rfl (AllFrom.cons rfl (AllFrom.cons rfl (AllFrom.cons rfl (AllFrom.cons rfl (AllFrom.cons rfl (AllFrom.cons rfl (AllFrom.cons rfl (AllFrom.cons rfl (AllFrom.cons rfl (AllFrom.cons rfl (AllFrom.cons rfl (AllFrom.cons rfl (AllFrom.cons rfl (AllFrom.cons rfl (AllFrom.cons rfl (AllFrom.cons rfl (AllFrom.cons rfl (AllFrom.cons rfl (AllFrom.cons rfl (AllFrom.cons rfl (AllFrom.cons rfl (AllFrom.cons rfl (AllFrom.cons rfl (AllFrom.cons rfl AllFrom.nil))))))))))))))))))))))))))))))))))))))))))))))))))))))))))))))))
  case deps =>
    intro i hi j hj
    refine deps_ofE (deps := depsTF) ?_ i hi j hj
    kernel_rfl
  case want => exact all_ops (AllFrom.cons (fun U w hd => rfl) (AllFrom.cons (fun U w hd => rfl) (AllFrom.cons (fun U w hd => rfl) (AllFrom.cons (fun U w hd => rfl) (AllFrom.cons (fun U w hd => rfl) (AllFrom.cons (fun U w hd => rfl) (AllFrom.cons (fun U w hd => wanted_ofE rfl (yielded_ofE (s := 114) (b := true) rfl ((show _ = some (U 114) from by kernel_rfl).trans (congrArg some (show U 114 = .bool true from hd 5 (by decide))))) rfl) (AllFrom.cons (fun U w hd => wanted_ofE rfl (yielded_ofE (s := 114) (b := true) rfl ((show _ = some (U 114) from by kernel_rfl).trans (congrArg some (show U 114 = .bool true from hd 5 (by decide))))) rfl) (AllFrom.cons (fun U w hd => wanted_ofE rfl (yielded_ofE (s := 114) (b := true) rfl ((show _ = some (U 114) from by kernel_rfl).trans (congrArg some (show U 114 = .bool true from hd 5 (by decide))))) rfl) (AllFrom.cons (fun U w hd => wanted_ofE rfl (yielded_ofE (s := 114) (b := true) rfl ((show _ = some (U 114) from by kernel_rfl).trans (congrArg some (show U 114 = .bool true from hd 5 (by decide))))) rfl) (AllFrom.cons (fun U w hd => wanted_ofE rfl (yielded_ofE (s := 114) (b := true) rfl ((show _ = some (U 114) from by kernel_rfl).trans (congrArg some (show U 114 = .bool true from hd 5 (by decide))))) rfl) (AllFrom.cons (fun U w hd => rfl) (AllFrom.cons (fun U w hd => rfl) (AllFrom.cons (fun U w hd => wanted_ofE rfl (yielded_ofE (s := 121) (b := true) rfl ((show _ = some (U 121) from by kernel_rfl).trans (congrArg some (show U 121 = .bool true from hd 12 (by decide))))) rfl) (AllFrom.cons (fun U w hd => wanted_ofE rfl (yielded_ofE (s := 121) (b := true) rfl ((show _ = some (U 121) from by kernel_rfl).trans (congrArg some (show U 121 = .bool true from hd 12 (by decide))))) rfl) (AllFrom.cons (fun U w hd => wanted_ofE rfl (yielded_ofE (s := 121) (b := true) rfl ((show _ = some (U 121) from by kernel_rfl).trans (congrArg some (show U 121 = .bool true from hd 12 (by decide))))) rfl) (AllFrom.cons (fun U w hd => wanted_ofE rfl (yielded_ofE (s := 121) (b := true) rfl ((show _ = some (U 121) from by kernel_rfl).trans (congrArg some (show U 121 = .bool true from hd 12 (by decide))))) rfl) (AllFrom.cons (fun U w hd => wanted_ofE rfl (yielded_ofE (s := 121) (b := true) rfl ((show _ = some (U 121) from by kernel_rfl).trans (congrArg some (show U 121 = .bool true from hd 12 (by decide))))) rfl) (AllFrom.cons (fun U w hd => wanted_ofE rfl (yielded_ofE (s := 121) (b := true) rfl ((show _ = some (U 121) from by kernel_rfl).trans (congrArg some (show U 121 = .bool true from hd 12 (by decide))))) rfl) (AllFrom.cons (fun U w hd => rfl) (AllFrom.cons (fun U w hd => rfl) (AllFrom.cons (fun U w hd => wanted_ofE rfl (yielded_ofE (s := 129) (b := true) rfl ((show _ = some (U 129) from by kernel_rfl).trans (congrArg some (show U 129 = .bool true from hd 20 (by decide))))) rfl) (AllFrom.cons (fun U w hd => wanted_ofE rfl (yielded_ofE (s := 129) (b := true) rfl ((show _ = some (U 129) from by kernel_rfl).trans (congrArg some (show U 129 = .bool true from hd 20 (by decide))))) rfl) (AllFrom.cons (fun U w hd => wanted_ofE rfl (yielded_ofE (s := 129) (b := true) rfl ((show _ = some (U 129) from by kernel_rfl).trans (congrArg some (show U 129 = .bool true from hd 20 (by decide))))) rfl) (AllFrom.cons (fun U w hd => wanted_ofE rfl (yielded_ofE (s := 129) (b := true) rfl ((show _ = some (U 129) from by kernel_rfl).trans (congrArg some (show U 129 = .bool true from hd 20 (by decide))))) rfl) (AllFrom.cons (fun U w hd => wanted_ofE rfl (yielded_ofE (s := 129) (b := true) rfl ((show _ = some (U 129) from by kernel_rfl).trans (congrArg some (show U 129 = .bool true from hd 20 (by decide))))) rfl) (AllFrom.cons (fun U w hd => rfl) (AllFrom.cons (fun U w hd => rfl) (AllFrom.cons (fun U w hd => wanted_ofE rfl (yielded_ofE (s := 136) (b := true) rfl ((show _ = some (U 136) from by kernel_rfl).trans (congrArg some (show U 136 = .bool true from hd 27 (by decide))))) rfl) (AllFrom.cons (fun U w hd => wanted_ofE rfl (yielded_ofE (s := 136) (b := true) rfl ((show _ = some (U 136) from by kernel_rfl).trans (congrArg some (show U 136 = .bool true from hd 27 (by decide))))) rfl) (AllFrom.cons (fun U w hd => wanted_ofE rfl (yielded_ofE (s := 136) (b := true) rfl ((show _ = some (U 136) from by kernel_rfl).trans (congrArg some (show U 136 = .bool true from hd 27 (by decide))))) rfl) (AllFrom.cons (fun U w hd => wanted_ofE rfl (yielded_ofE (s := 136) (b := true) rfl ((show _ = some (U 136) from by kernel_rfl).trans (congrArg some (show U 136 = .bool true from hd 27 (by decide))))) rfl) (AllFrom.cons (fun U w hd => wanted_ofE rfl (yielded_ofE (s := 136) (b := true) rfl ((show _ = some (U 136) from by kernel_rfl).trans (congrArg some (show U 136 = .bool true from hd 27 (by decide))))) rfl) (AllFrom.cons (fun U w hd => rfl) (AllFrom.cons (fun U w hd => rfl) (AllFrom.cons (fun U w hd => wanted_ofE rfl (yielded_ofE (s := 143) (b := true) rfl ((show _ = some (U 143) from by kernel_rfl).trans (congrArg some (show U 143 = .bool true from hd 34 (by decide))))) rfl) (AllFrom.cons (fun U w hd => wanted_ofE rfl (yielded_ofE (s := 143) (b := true) rfl ((show _ = some (U 143) from by kernel_rfl).trans (congrArg some (show U 143 = .bool true from hd 34 (by decide))))) rfl) (AllFrom.cons (fun U w hd => wanted_ofE rfl (yielded_ofE (s := 143) (b := true) rfl ((show _ = some (U 143) from by kernel_rfl).trans (congrArg some (show U 143 = .bool true from hd 34 (by decide))))) rfl) (AllFrom.cons (fun U w hd => wanted_ofE rfl (yielded_ofE (s := 143) (b := true) rfl ((show _ = some (U 143) from by kernel_rfl).trans (congrArg some (show U 143 = .bool true from hd 34 (by decide))))) rfl) (AllFrom.cons (fun U w hd => rfl) (AllFrom.cons (fun U w hd => rfl) (AllFrom.cons (fun U w hd => wanted_ofE rfl (yielded_ofE (s := 149) (b := true) rfl ((show _ = some (U 149) from by kernel_rfl).trans (congrArg some (show U 149 = .bool true from hd 40 (by decide))))) rfl) (AllFrom.cons (fun U w hd => wanted_ofE rfl (yielded_ofE (s := 149) (b := true) rfl ((show _ = some (U 149) from by kernel_rfl).trans (congrArg some (show U 149 = .bool true from hd 40 (by decide))))) rfl) (AllFrom.cons (fun U w hd => wanted_ofE rfl (yielded_ofE (s := 149) (b := true) rfl ((show _ = some (U 149) from by kernel_rfl).trans (congrArg some (show U 149 = .bool true from hd 40 (by decide))))) rfl) (AllFrom.cons (fun U w hd => rfl) (AllFrom.cons (fun U w hd => rfl) (AllFrom.cons (fun U w hd => wanted_ofE rfl (yielded_ofE (s := 154) (b := true) rfl ((show _ = some (U 154) from by kernel_rfl).trans (congrArg some (show U 154 = .bool true from hd 45 (by decide))))) rfl) (AllFrom.cons (fun U w hd => wanted_ofE rfl (yielded_ofE (s := 154) (b := true) rfl ((show _ = some (U 154) from by kernel_rfl).trans (congrArg some (show U 154 = .bool true from hd 45 (by decide))))) rfl) (AllFrom.cons (fun U w hd => wanted_ofE rfl (yielded_ofE (s := 154) (b := true) rfl ((show _ = some (U 154) from by kernel_rfl).trans (congrArg some (show U 154 = .bool true from hd 45 (by decide))))) rfl) (AllFrom.cons (fun U w hd => rfl) (AllFrom.cons (fun U w hd => rfl) (AllFrom.cons (fun U w hd => wanted_ofE rfl (yielded_ofE (s := 159) (b := true) rfl ((show _ = some (U 159) from by kernel_rfl).trans (congrArg some (show U 159 = .bool true from hd 50 (by decide))))) rfl) (AllFrom.cons (fun U w hd => wanted_ofE rfl (yielded_ofE (s := 159) (b := true) rfl ((show _ = some (U 159) from by kernel_rfl).trans (congrArg some (show U 159 = .bool true from hd 50 (by decide))))) rfl) (AllFrom.cons (fun U w hd => wanted_ofE rfl (yielded_ofE (s := 159) (b := true) rfl ((show _ = some (U 159) from by kernel_rfl).trans (congrArg some (show U 159 = .bool true from hd 50 (by decide))))) rfl) (AllFrom.cons (fun U w hd => rfl) (AllFrom.cons (fun U w hd => rfl) (AllFrom.cons (fun U w hd => wanted_ofE rfl (yielded_ofE (s := 164) (b := true) rfl ((show _ = some (U 164) from by kernel_rfl).trans (congrArg some (show U 164 = .bool true from hd 55 (by decide))))) rfl) (AllFrom.cons (fun U w hd => wanted_ofE rfl (yielded_ofE (s := 164) (b := true) rfl ((show _ = some (U 164) from by kernel_rfl).trans (congrArg some (show U 164 = .bool true from hd 55 (by decide))))) rfl) (AllFrom.cons (fun U w hd => wanted_ofE rfl (yielded_ofE (s := 164) (b := true) rfl ((show _ = some (U 164) from by kernel_rfl).trans (congrArg some (show U 164 = .bool true from hd 55 (by decide))))) rfl) (AllFrom.cons (fun U w hd => rfl) (AllFrom.cons (fun U w hd => rfl) (AllFrom.cons (fun U w hd => wanted_ofE rfl (yielded_ofE (s := 169) (b := true) rfl ((show _ = some (U 169) from by kernel_rfl).trans (congrArg some (show U 169 = .bool true from hd 60 (by decide))))) rfl) (AllFrom.cons (fun U w hd => rfl) (AllFrom.cons (fun U w hd => rfl) AllFrom.nil))))))))))))))))))))))))))))))))))))))))))))))))))))))))))))))))
  case put => exact all_ops (AllFrom.cons (fun _ _ => by kernel_rfl) (AllFrom.cons (fun _ _ => by kernel_rfl) (AllFrom.cons (fun _ _ => by kernel_rfl) (AllFrom.cons (fun _ _ => by kernel_rfl) (AllFrom.cons (fun _ _ => by kernel_rfl) (AllFrom.cons (fun _ _ => by kernel_rfl) (AllFrom.cons (fun _ _ => by kernel_rfl) (AllFrom.cons (fun _ _ => by kernel_rfl) (AllFrom.cons (fun _ _ => by kernel_rfl) (AllFrom.cons (fun _ _ => by kernel_rfl) (AllFrom.cons (fun _ _ => by kernel_rfl) (AllFrom.cons (fun _ _ => by kernel_rfl) (AllFrom.cons (fun _ _ => by kernel_rfl) (AllFrom.cons (fun _ _ => by kernel_rfl) (AllFrom.cons (fun _ _ => by kernel_rfl) (AllFrom.cons (fun _ _ => by kernel_rfl) (AllFrom.cons (fun _ _ => by kernel_rfl) (AllFrom.cons (fun _ _ => by kernel_rfl) (AllFrom.cons (fun _ _ => by kernel_rfl) (AllFrom.cons (fun _ _ => by kernel_rfl) (AllFrom.cons (fun _ _ => by kernel_rfl) (AllFrom.cons (fun _ _ => by kernel_rfl) (AllFrom.cons (fun _ _ => by kernel_rfl) (AllFrom.cons (fun _ _ => by kernel_rfl) (AllFrom.cons (fun _ _ => by kernel_rfl) (AllFrom.cons (fun _ _ => by kernel_rfl) (AllFrom.cons (fun _ _ => by kernel_rfl) (AllFrom.cons (fun _ _ => by kernel_rfl) (AllFrom.cons (fun _ _ => by kernel_rfl) (AllFrom.cons (fun _ _ => by kernel_rfl) (AllFrom.cons (fun _ _ => by kernel_rfl) (AllFrom.cons (fun _ _ => by kernel_rfl) (AllFrom.cons (fun _ _ => by kernel_rfl) (AllFrom.cons (fun _ _ => by kernel_rfl) (AllFrom.cons (fun _ _ => by kernel_rfl) (AllFrom.cons (fun _ _ => by kernel_rfl) (AllFrom.cons (fun _ _ => by kernel_rfl) (AllFrom.cons (fun _ _ => by kernel_rfl) (AllFrom.cons (fun _ _ => by kernel_rfl) (AllFrom.cons (fun _ _ => by kernel_rfl) (AllFrom.cons (fun _ _ => by kernel_rfl) (AllFrom.cons (fun _ _ => by kernel_rfl) (AllFrom.cons (fun _ _ => by kernel_rfl) (AllFrom.cons (fun _ _ => by kernel_rfl) (AllFrom.cons (fun _ _ => by kernel_rfl) (AllFrom.cons (fun _ _ => by kernel_rfl) (AllFrom.cons (fun _ _ => by kernel_rfl) (AllFrom.cons (fun _ _ => by kernel_rfl) (AllFrom.cons (fun _ _ => by kernel_rfl) (AllFrom.cons (fun _ _ => by kernel_rfl) (AllFrom.cons (fun _ _ => by kernel_rfl) (AllFrom.cons (fun _ _ => by kernel_rfl) (AllFrom.cons (fun _ _ => by kernel_rfl) (AllFrom.cons (fun _ _ => by kernel_rfl) (AllFrom.cons (fun _ _ => by kernel_rfl) (AllFrom.cons (fun _ _ => by kernel_rfl) (AllFrom.cons (fun _ _ => by kernel_rfl) (AllFrom.cons (fun _ _ => by kernel_rfl) (AllFrom.cons (fun _ _ => by kernel_rfl) (AllFrom.cons (fun _ _ => by kernel_rfl) (AllFrom.cons (fun _ _ => by kernel_rfl) (AllFrom.cons (fun _ _ => by kernel_rfl) (AllFrom.cons (fun _ _ => by kernel_rfl) (AllFrom.cons (fun _ _ => by kernel_rfl) AllFrom.nil))))))))))))))))))))))))))))))))))))))))))))))))))))))))))))))))
  case ev => exact all_ops (AllFrom.cons (fun _ => by kernel_rfl) (AllFrom.cons (fun _ => by kernel_rfl) (AllFrom.cons (fun _ => by kernel_rfl) (AllFrom.cons (fun _ => by kernel_rfl) (AllFrom.cons (fun _ => by kernel_rfl) (AllFrom.cons (fun _ => by kernel_rfl) (AllFrom.cons (fun _ => by kernel_rfl) (AllFrom.cons (fun _ => by kernel_rfl) (AllFrom.cons (fun _ => by kernel_rfl) (AllFrom.cons (fun _ => by kernel_rfl) (AllFrom.cons (fun _ => by kernel_rfl) (AllFrom.cons (fun _ => by kernel_rfl) (AllFrom.cons (fun _ => by kernel_rfl) (AllFrom.cons (fun _ => by kernel_rfl) (AllFrom.cons (fun _ => by kernel_rfl) (AllFrom.cons (fun _ => by kernel_rfl) (AllFrom.cons (fun _ => by kernel_rfl) (AllFrom.cons (fun _ => by kernel_rfl) (AllFrom.cons (fun _ => by kernel_rfl) (AllFrom.cons (fun _ => by kernel_rfl) (AllFrom.cons (fun _ => by kernel_rfl) (AllFrom.cons (fun _ => by kernel_rfl) (AllFrom.cons (fun _ => by kernel_rfl) (AllFrom.cons (fun _ => by kernel_rfl) (AllFrom.cons (fun _ => by kernel_rfl) (AllFrom.cons (fun _ => by kernel_rfl) (AllFrom.cons (fun _ => by kernel_rfl) (AllFrom.cons (fun _ => by kernel_rfl) (AllFrom.cons (fun _ => by kernel_rfl) (AllFrom.cons (fun _ => by kernel_rfl) (AllFrom.cons (fun _ => by kernel_rfl) (AllFrom.cons (fun _ => by kernel_rfl) (AllFrom.cons (fun _ => by kernel_rfl) (AllFrom.cons (fun _ => by kernel_rfl) (AllFrom.cons (fun _ => by kernel_rfl) (AllFrom.cons (fun _ => by kernel_rfl) (AllFrom.cons (fun _ => by kernel_rfl) (AllFrom.cons (fun _ => by kernel_rfl) (AllFrom.cons (fun _ => by kernel_rfl) (AllFrom.cons (fun _ => by kernel_rfl) (AllFrom.cons (fun _ => by kernel_rfl) (AllFrom.cons (fun _ => by kernel_rfl) (AllFrom.cons (fun _ => by kernel_rfl) (AllFrom.cons (fun _ => by kernel_rfl) (AllFrom.cons (fun _ => by kernel_rfl) (AllFrom.cons (fun _ => by kernel_rfl) (AllFrom.cons (fun _ => by kernel_rfl) (AllFrom.cons (fun _ => by kernel_rfl) (AllFrom.cons (fun _ => by kernel_rfl) (AllFrom.cons (fun _ => by kernel_rfl) (AllFrom.cons (fun _ => by kernel_rfl) (AllFrom.cons (fun _ => by kernel_rfl) (AllFrom.cons (fun _ => by kernel_rfl) (AllFrom.cons (fun _ => by kernel_rfl) (AllFrom.cons (fun _ => by kernel_rfl) (AllFrom.cons (fun _ => by kernel_rfl) (AllFrom.cons (fun _ => by kernel_rfl) (AllFrom.cons (fun _ => by kernel_rfl) (AllFrom.cons (fun _ => by kernel_rfl) (AllFrom.cons (fun _ => by kernel_rfl) (AllFrom.cons (fun _ => by kernel_rfl) (AllFrom.cons (fun _ => by kernel_rfl) (AllFrom.cons (fun _ => by kernel_rfl) (AllFrom.cons (fun _ => by kernel_rfl) AllFrom.nil))))))))))))))))))))))))))))))))))))))))))))))))))))))))))))))))
  case fr => exact fun U => ⟨by kernel_rfl, by kernel_rfl, by kernel_rfl⟩
  case done =>
    intro U w' hB hV
    have e1 : U 2 = .bool true := hV 63 (by decide)
    unfold frameTF
    rw [e1]
    have HB9 := Lib.hid hB
    clear hV e1 hB
    go_wp2_with fail
    go_ret
    exact ⟨rfl, HEND.out.trans (HB9.out.mono HEND.out.size)⟩
end Go.Proofs.Ytbgagmpifaakgaa

