/- WindPlays: going through the window, left in the middle. -/
import Derived.Test.YteafbljdlcbckaaPlaysR5
import Derived.Test.YteafbljdlcbckaaWindQI
import Derived.Maps.OwnIn
import Derived.Maps.RangeWalk
import Derived.Deep.DeepCutAuto
import Derived.Deep.CutBlock
namespace Go.Proofs.Yteafbljdlcbckaa
open Go.RowKit Go.Maps
set_option linter.unusedVariables false
attribute [local go_sem] Oper.semAt_some
namespace Py
/-- a thing that is told: a number, and what the map holds there -/
def Told (D : DataW Unit) (x : Int × Int) : Prop := (Lit.int .i64 x.1).wf = true ∧ D.atKey (.int .i64 x.1) (.lit (.int .i64 0)) = .lit (.int .i64 x.2)
theorem kO_all (fr : Nat) (ss : List (Option Int)) : kO fr ss ss.length = (Wd.pairs ((fr : Int) + 1) ss).map Prod.fst := by unfold kO; rw [List.take_length]
theorem deferred_of {w : World} {D : Nat} (h : w.heap[D]? = some (.deferred (some []))) : D < w.heap.size := (Array.getElem?_eq_some_iff.1 h).1
set_option maxRecDepth 100000 in
set_option maxHeartbeats 4000000 in
theorem r6 {Q : Exit → Act → World → Prop} (U : Nat → Value) (Ds : List Nat) {f leave k : Int} {a0 : Option Addr} {len0 cap0 m : Nat} {w wa : World} {p q bf bl br bh B i fr : Nat} {ss : List (Option Int)} {tt : List (Option WY.V)} {D : DataW Unit} {b : Bool} {xv yv zv : Value} {Ak Am : Option Addr} {nk ck nm cm : Nat}
    (hP : Pl.PlayS w wa p q bf bl br bh B leave (i + 1) fr ss tt D) (hi60 : i < 60) (hm : leave % 16 + 1 = (m : Int))
    (hnext : ∀ (T : Array Value) (wx : World) (Dm gt : Nat) (At : Option Addr) (nt ct : Nat), Below wa.heap.size wa wx → Blk wx gt 22 #[.slice At nt ct] → Rd wx wx.heap.size At nt (iv ((kO fr ss ss.length).take m)) → nt ≤ 100000 →
      wx.heap[Dm]? = some (.deferred (some [])) → wa.heap.size ≤ Dm → T = #[.int .i64 f, .slice a0 len0 cap0, .int .i64 leave, .pointer (some ⟨bf, 0, none⟩), T.toList.getD 4 undef, .pointer (some ⟨bl, 0, none⟩), .pointer (some ⟨br, 0, none⟩), .pointer (some ⟨p, 0, none⟩), .pointer (some ⟨q, 0, none⟩), .pointer (some ⟨bh, 0, none⟩), .func (.func 6) #[] #[.pointer (some ⟨bf, 0, none⟩), .pointer (some ⟨bh, 0, none⟩)], .int .i64 (i : Int), .int .i64 k, T.toList.getD 13 undef, T.toList.getD 14 undef, T.toList.getD 15 undef, T.toList.getD 16 undef, xv, .bool b, yv, .bool b, zv, .bool b, .int .i64 ((fr : Int) + (ss.length : Int)), .slice Ak nk ck, .slice Am nm cm, T.toList.getD 26 undef, T.toList.getD 27 undef, T.toList.getD 28 undef, T.toList.getD 29 undef, .pointer (some ⟨gt, 0, none⟩), T.toList.getD 31 undef, T.toList.getD 32 undef, T.toList.getD 33 undef, T.toList.getD 34 undef, T.toList.getD 35 undef, T.toList.getD 36 undef, T.toList.getD 37 undef, T.toList.getD 38 undef, T.toList.getD 39 undef, T.toList.getD 40 undef, T.toList.getD 41 undef, T.toList.getD 42 undef, T.toList.getD 43 undef, T.toList.getD 44 undef, T.toList.getD 45 undef, T.toList.getD 46 undef, T.toList.getD 47 undef, T.toList.getD 48 undef, T.toList.getD 49 undef, T.toList.getD 50 undef, T.toList.getD 51 undef, T.toList.getD 52 undef, T.toList.getD 53 undef, T.toList.getD 54 undef, T.toList.getD 55 undef, T.toList.getD 56 undef, T.toList.getD 57 undef, T.toList.getD 58 undef, T.toList.getD 59 undef, T.toList.getD 60 undef, T.toList.getD 61 undef, T.toList.getD 62 undef, T.toList.getD 63 undef, T.toList.getD 64 undef, T.toList.getD 65 undef, T.toList.getD 66 undef, T.toList.getD 67 undef, T.toList.getD 68 undef, T.toList.getD 69 undef, T.toList.getD 70 undef, T.toList.getD 71 undef, T.toList.getD 72 undef, T.toList.getD 73 undef, T.toList.getD 74 undef, T.toList.getD 75 undef, T.toList.getD 76 undef, T.toList.getD 77 undef, T.toList.getD 78 undef, T.toList.getD 79 undef, T.toList.getD 80 undef, T.toList.getD 81 undef, T.toList.getD 82 undef, T.toList.getD 83 undef, T.toList.getD 84 undef, T.toList.getD 85 undef, T.toList.getD 86 undef, T.toList.getD 87 undef, T.toList.getD 88 undef, T.toList.getD 89 undef, T.toList.getD 90 undef, T.toList.getD 91 undef, T.toList.getD 92 undef, T.toList.getD 93 undef, T.toList.getD 94 undef, T.toList.getD 95 undef, T.toList.getD 96 undef, T.toList.getD 97 undef, T.toList.getD 98 undef, T.toList.getD 99 undef, T.toList.getD 100 undef, T.toList.getD 101 undef, T.toList.getD 102 undef, T.toList.getD 103 undef, T.toList.getD 104 undef, T.toList.getD 105 undef, T.toList.getD 106 undef, T.toList.getD 107 undef, T.toList.getD 108 undef, T.toList.getD 109 undef, T.toList.getD 110 undef, T.toList.getD 111 undef, T.toList.getD 112 undef, T.toList.getD 113 undef, T.toList.getD 114 undef, T.toList.getD 115 undef, T.toList.getD 116 undef, T.toList.getD 117 undef, T.toList.getD 118 undef, T.toList.getD 119 undef, T.toList.getD 120 undef, T.toList.getD 121 undef, T.toList.getD 122 undef, T.toList.getD 123 undef, T.toList.getD 124 undef, T.toList.getD 125 undef, T.toList.getD 126 undef, T.toList.getD 127 undef, T.toList.getD 128 undef, T.toList.getD 129 undef, T.toList.getD 130 undef, T.toList.getD 131 undef, T.toList.getD 132 undef, T.toList.getD 133 undef, T.toList.getD 134 undef, T.toList.getD 135 undef, T.toList.getD 136 undef, T.toList.getD 137 undef, T.toList.getD 138 undef, T.toList.getD 139 undef, T.toList.getD 140 undef, T.toList.getD 141 undef, T.toList.getD 142 undef, T.toList.getD 143 undef, T.toList.getD 144 undef, T.toList.getD 145 undef, T.toList.getD 146 undef, T.toList.getD 147 undef, T.toList.getD 148 undef, T.toList.getD 149 undef, T.toList.getD 150 undef, T.toList.getD 151 undef, T.toList.getD 152 undef, T.toList.getD 153 undef, T.toList.getD 154 undef, T.toList.getD 155 undef, T.toList.getD 156 undef, T.toList.getD 157 undef, T.toList.getD 158 undef, T.toList.getD 159 undef, T.toList.getD 160 undef, T.toList.getD 161 undef, T.toList.getD 162 undef, T.toList.getD 163 undef, T.toList.getD 164 undef, T.toList.getD 165 undef, T.toList.getD 166 undef, T.toList.getD 167 undef, T.toList.getD 168 undef, T.toList.getD 169 undef, T.toList.getD 170 undef, T.toList.getD 171 undef, T.toList.getD 172 undef, T.toList.getD 173 undef, T.toList.getD 174 undef, T.toList.getD 175 undef, T.toList.getD 176 undef, T.toList.getD 177 undef, T.toList.getD 178 undef, T.toList.getD 179 undef, T.toList.getD 180 undef, T.toList.getD 181 undef, T.toList.getD 182 undef, T.toList.getD 183 undef, T.toList.getD 184 undef, T.toList.getD 185 undef, T.toList.getD 186 undef, T.toList.getD 187 undef, T.toList.getD 188 undef, T.toList.getD 189 undef, T.toList.getD 190 undef, T.toList.getD 191 undef, T.toList.getD 192 undef, T.toList.getD 193 undef, T.toList.getD 194 undef, T.toList.getD 195 undef, T.toList.getD 196 undef, T.toList.getD 197 undef, T.toList.getD 198 undef, T.toList.getD 199 undef, T.toList.getD 200 undef, T.toList.getD 201 undef, T.toList.getD 202 undef, T.toList.getD 203 undef, T.toList.getD 204 undef, T.toList.getD 205 undef, T.toList.getD 206 undef, T.toList.getD 207 undef, T.toList.getD 208 undef, T.toList.getD 209 undef, T.toList.getD 210 undef, T.toList.getD 211 undef, T.toList.getD 212 undef, T.toList.getD 213 undef, T.toList.getD 214 undef, T.toList.getD 215 undef, T.toList.getD 216 undef, T.toList.getD 217 undef, T.toList.getD 218 undef, T.toList.getD 219 undef, T.toList.getD 220 undef, T.toList.getD 221 undef, T.toList.getD 222 undef, T.toList.getD 223 undef, T.toList.getD 224 undef, T.toList.getD 225 undef, T.toList.getD 226 undef, T.toList.getD 227 undef, T.toList.getD 228 undef, T.toList.getD 229 undef, T.toList.getD 230 undef, T.toList.getD 231 undef, T.toList.getD 232 undef, T.toList.getD 233 undef, T.toList.getD 234 undef, T.toList.getD 235 undef, T.toList.getD 236 undef, T.toList.getD 237 undef, T.toList.getD 238 undef, T.toList.getD 239 undef, T.toList.getD 240 undef, T.toList.getD 241 undef, T.toList.getD 242 undef, T.toList.getD 243 undef, T.toList.getD 244 undef, T.toList.getD 245 undef, T.toList.getD 246 undef, T.toList.getD 247 undef, T.toList.getD 248 undef, T.toList.getD 249 undef, T.toList.getD 250 undef, T.toList.getD 251 undef, T.toList.getD 252 undef, T.toList.getD 253 undef, T.toList.getD 254 undef, T.toList.getD 255 undef, T.toList.getD 256 undef, T.toList.getD 257 undef, T.toList.getD 258 undef, T.toList.getD 259 undef, T.toList.getD 260 undef, T.toList.getD 261 undef, T.toList.getD 262 undef, T.toList.getD 263 undef, T.toList.getD 264 undef, T.toList.getD 265 undef, T.toList.getD 266 undef, T.toList.getD 267 undef, T.toList.getD 268 undef, T.toList.getD 269 undef, T.toList.getD 270 undef, T.toList.getD 271 undef, T.toList.getD 272 undef, T.toList.getD 273 undef, T.toList.getD 274 undef, T.toList.getD 275 undef, T.toList.getD 276 undef, T.toList.getD 277 undef, T.toList.getD 278 undef, T.toList.getD 279 undef, T.toList.getD 280 undef, T.toList.getD 281 undef, T.toList.getD 282 undef, T.toList.getD 283 undef, T.toList.getD 284 undef, T.toList.getD 285 undef, T.toList.getD 286 undef, T.toList.getD 287 undef, T.toList.getD 288 undef, T.toList.getD 289 undef, T.toList.getD 290 undef, T.toList.getD 291 undef, T.toList.getD 292 undef, T.toList.getD 293 undef, T.toList.getD 294 undef, T.toList.getD 295 undef, T.toList.getD 296 undef, T.toList.getD 297 undef, T.toList.getD 298 undef, T.toList.getD 299 undef, T.toList.getD 300 undef, T.toList.getD 301 undef, T.toList.getD 302 undef, T.toList.getD 303 undef, T.toList.getD 304 undef, T.toList.getD 305 undef, T.toList.getD 306 undef, T.toList.getD 307 undef, T.toList.getD 308 undef, T.toList.getD 309 undef, T.toList.getD 310 undef, T.toList.getD 311 undef, T.toList.getD 312 undef] → Code.wp Try.prog (rest 58) Q { tmps := T, defers := (Dm :: Ds).map Mk.mark } wx) :
    Code.wp Try.prog (rest 50) Q { tmps := #[.int .i64 f, .slice a0 len0 cap0, .int .i64 leave, .pointer (some ⟨bf, 0, none⟩), U 4, .pointer (some ⟨bl, 0, none⟩), .pointer (some ⟨br, 0, none⟩), .pointer (some ⟨p, 0, none⟩), .pointer (some ⟨q, 0, none⟩), .pointer (some ⟨bh, 0, none⟩), .func (.func 6) #[] #[.pointer (some ⟨bf, 0, none⟩), .pointer (some ⟨bh, 0, none⟩)], .int .i64 (i : Int), .int .i64 k, U 13, U 14, U 15, U 16, xv, .bool b, yv, .bool b, zv, .bool b, .int .i64 ((fr : Int) + (ss.length : Int)), .slice Ak nk ck, .slice Am nm cm, U 26, U 27, U 28, U 29, U 30, U 31, U 32, U 33, U 34, U 35, U 36, U 37, U 38, U 39, U 40, U 41, U 42, U 43, U 44, U 45, U 46, U 47, U 48, U 49, U 50, U 51, U 52, U 53, U 54, U 55, U 56, U 57, U 58, U 59, U 60, U 61, U 62, U 63, U 64, U 65, U 66, U 67, U 68, U 69, U 70, U 71, U 72, U 73, U 74, U 75, U 76, U 77, U 78, U 79, U 80, U 81, U 82, U 83, U 84, U 85, U 86, U 87, U 88, U 89, U 90, U 91, U 92, U 93, U 94, U 95, U 96, U 97, U 98, U 99, U 100, U 101, U 102, U 103, U 104, U 105, U 106, U 107, U 108, U 109, U 110, U 111, U 112, U 113, U 114, U 115, U 116, U 117, U 118, U 119, U 120, U 121, U 122, U 123, U 124, U 125, U 126, U 127, U 128, U 129, U 130, U 131, U 132, U 133, U 134, U 135, U 136, U 137, U 138, U 139, U 140, U 141, U 142, U 143, U 144, U 145, U 146, U 147, U 148, U 149, U 150, U 151, U 152, U 153, U 154, U 155, U 156, U 157, U 158, U 159, U 160, U 161, U 162, U 163, U 164, U 165, U 166, U 167, U 168, U 169, U 170, U 171, U 172, U 173, U 174, U 175, U 176, U 177, U 178, U 179, U 180, U 181, U 182, U 183, U 184, U 185, U 186, U 187, U 188, U 189, U 190, U 191, U 192, U 193, U 194, U 195, U 196, U 197, U 198, U 199, U 200, U 201, U 202, U 203, U 204, U 205, U 206, U 207, U 208, U 209, U 210, U 211, U 212, U 213, U 214, U 215, U 216, U 217, U 218, U 219, U 220, U 221, U 222, U 223, U 224, U 225, U 226, U 227, U 228, U 229, U 230, U 231, U 232, U 233, U 234, U 235, U 236, U 237, U 238, U 239, U 240, U 241, U 242, U 243, U 244, U 245, U 246, U 247, U 248, U 249, U 250, U 251, U 252, U 253, U 254, U 255, U 256, U 257, U 258, U 259, U 260, U 261, U 262, U 263, U 264, U 265, U 266, U 267, U 268, U 269, U 270, U 271, U 272, U 273, U 274, U 275, U 276, U 277, U 278, U 279, U 280, U 281, U 282, U 283, U 284, U 285, U 286, U 287, U 288, U 289, U 290, U 291, U 292, U 293, U 294, U 295, U 296, U 297, U 298, U 299, U 300, U 301, U 302, U 303, U 304, U 305, U 306, U 307, U 308, U 309, U 310, U 311, U 312], defers := Ds.map Mk.mark } wa := by
  conv => arg 2; whnf
  have hlen := hP.len
  have hfr : fr + ss.length ≤ 70000 := by omega
  have e15 := and_15 leave
  obtain ⟨i1, hj1, hj2, hj3, hj4⟩ := info_parts (show (Try.prog.info? 3).map (fun i => (i.zero, i.size, i.bytes)) = some (some (.int .i64 0), 1, 8) by kernel_rfl)
  have HJ1 := Lib.hid hj1
  have HJ2 := Lib.hid hj2
  have HJ3 := Lib.hid hj3
  have HJ4 := Lib.hid hj4
  have HP := Lib.hid hP
  have HN := Lib.hid hnext
  have htold : ∀ x ∈ Wd.pairs ((fr : Int) + 1) ss, Told D x := by
    intro x hx
    obtain ⟨j, h1, h2⟩ := Wd.mem_pairs.1 hx
    have hj : j < ss.length := (List.getElem?_eq_some_iff.1 h1).1
    refine ⟨WalkArith.wf_i64 (by omega), ?_⟩
    have := hP.tie.val j x.2 h1
    rw [h2]
    have e : ((fr + 1 + j : Nat) : Int) = (fr : Int) + 1 + (j : Int) := by omega
    rwa [e] at this
  have HTD := Lib.hid htold
  clear hP hnext hlen hj1 hj2 hj3 hj4 htold
  go_wp2_with fail
  obtain ⟨gt, hgt⟩ : ∃ x, x = wa.heap.size := ⟨_, rfl⟩
  have b1 : Below wa.heap.size wa (wa.alloc (.cells #[.slice none 0 0] 22)) := (Below.refl _ _).alloc (Nat.le_refl _) _
  have HP1 := Lib.hid (HP.out.keep b1)
  have hbt := Blk.new wa 22 #[.slice none 0 0]
  have hs1 : (wa.alloc (.cells #[.slice none 0 0] 22)).heap.size = wa.heap.size + 1 := by simp
  obtain ⟨x1, hx1⟩ : ∃ x1, x1 = wa.alloc (.cells #[.slice none 0 0] 22) := ⟨_, rfl⟩
  rw [← hx1] at b1 HP1 hbt hs1 ⊢
  rw [← hgt] at hbt ⊢
  clear hx1
  refine (WI.all_any x1 _ p fr _ ss HP1.out.win).mono ?_
  rintro e y2 ⟨Bs, Bf, ks, rfl, hseq, hq1, hq2, hq3, hBy2⟩
  clear hq1 hq2 hq3
  have hks : ∀ k ∈ ks, k < y2.heap.size ∧ x1.heap.size ≤ k := by
    obtain ⟨_, _, _, _, _, _, _, _, hk⟩ := hseq
    intro k hk'
    have := hk k hk'
    omega
  have hsy2 : x1.heap.size ≤ y2.heap.size := hBy2.size
  have HP2 := Lib.hid (HP1.out.keep hBy2)
  have hbt2 := hbt.below hBy2
  have b2 := b1.trans (hBy2.mono b1.size)
  have hbhl : bh < gt := by rw [hgt]; exact HP.out.ph.lt
  have hbll : bl < gt := by rw [hgt]; exact HP.out.pl.lt
  have hBl : B < gt := by rw [hgt]; exact HP.out.map.lt
  have HGT := Lib.hid (show wa.heap.size ≤ gt ∧ gt < y2.heap.size ∧ gt < x1.heap.size by omega)
  clear hbt hBy2 b1 HP1 hgt hs1
  go_upto_block 9 with fail
  rename_i hK
  refine wp_marked (fun Dm W => ColI y2 gt 22 3 ((kO fr ss ss.length).take m) W) ?_ ?_
  · refine (wpIn_wide (n := 20)).1 ?_
    refine wpIn_wide.2 ?_
    go_wp2_with fail
    refine (wpIn_wide (n := 20)).1 ?_
    refine wpIn_rangeFunc_ownG (α := { x : Int × Int // Told D x }) rfl (by omega) (gf := 36) (lb := #[.pointer (some ⟨Bs, 0, none⟩), .pointer (some ⟨Bf, 0, none⟩)]) rfl trivial (Go.Proofs.enters_of Try.func36 (by kernel_rfl) rfl)
      (WI.rising_stops Fence.wide 19 trivial rfl (by omega) (Told D) x1.heap.size _ ss Bs Bf ks y2 hseq HTD.out (by omega) (by omega) (by unfold WI.Fit; omega))
      keepsK_t (keepsK_b (fun k hk => (hks k hk).1)) (Below.refl _ _) (fun _ => rfl)
      (fun pre W => ColI y2 gt 22 3 (pre.map fun x => x.1.1) W ∧ pre.length < m)
      (fun c pre W => ColI y2 gt 22 3 (pre.map fun x => x.1.1) W ∧ (c = .exit 9 ∧ pre.length = m))
      (OwnFrom.and (colI_own y2 gt _ _ _) (ownFrom_pure _ _))
      (fun c => OwnFrom.and (colI_own y2 gt _ _ _) (ownFrom_pure _ _))
      ⟨colI_start hbt2, by simp; omega⟩
      ?a₂ ?assign2 ?body2 ?done2 ?stop2
    case assign2 =>
      intro l x W K hK
      gi_wp2
      exact hK
    case body2 =>
      rintro l pre x W ⟨⟨⟨A, n, c, hb, ho⟩, hg⟩, hlt⟩ hlen
      have hnl : pre.length = n := by have := ho.1; rw [iv_length, List.length_map] at this; omega
      have hn40 : n ≤ 40 := by omega
      have hcc := hb.cell 0
      have hbhW := (HP2.out.ph.grown hg (by intro e; injection e with e; omega)).cell 0
      have hblkW := Lib.hid (HP2.out.pl.grown hg (by intro e; injection e with e; omega))
      have hblW := (HP2.out.pl.grown hg (by intro e; injection e with e; omega)).cell 0
      simp at hcc hbhW hblW
      have hmapW := HP2.out.map.kept hg (by intro e; injection e with e; omega)
      have hkey := keyOf_int_mk (P := Try.prog) Try.underlying3 x.2.1
      have HAT := Lib.hid x.2.2
      have HBx := Lib.hid hb
      have HOx := Lib.hid ho
      have HGx := Lib.hid hg
      have hszz : y2.heap.size ≤ W.heap.size := hg.size
      have HNL := Lib.hid hnl
      have HLT := Lib.hid hlt
      clear hb ho hg
      by_cases hj : n + 1 = m
      · have hd : (((n : Int) + 1) == (m : Int)) = true := by simp; omega
        gi_wp2_with (first
          | (gi_at_lookup; refine wpListIn_lookup_own_int _ rfl _ _ 28 rfl 3 3 .i64 Mw.law Try.underlying28 Try.underlying3 (Mw.zeroI _) B _ D rfl hmapW _ _ rfl hkey ?_; intro cv hat hwc; obtain rfl : cv = x.1.2 := (by rw [HAT.out] at hat; injection hat with hat; injection hat with _ hat; exact hat.symm))
          | (gi_at_builtin; refine wpListIn_append_own _ rfl (.tmp 225) (.tmp 227) 22 rfl y2.heap.size 3 i1 (.int .i64 0) 1 8 Try.underlying22 HJ1.out HJ2.out HJ3.out HJ4.out rfl (by decide) (.slice A n c) n _ rfl (HOx.out.alloc _) ⟨W.heap.size, 0, none⟩ 1 1 [.int .i64 x.1.1] rfl rfl (fun q u hu => by
              rw [addr_add, Nat.zero_add, World.cell?_alloc_mark]; simpa using hu) (by intro u hu; simp at hu; subst hu; rfl) (by unfold maxLen; omega) (by omega) (by simp; omega) ?_; intro v' w3 hown3 hgrow3 hnil3; obtain ⟨g', cap', rfl⟩ := ownsRow_succ hown3; obtain ⟨t5, t6, t7, t8⟩ := colI_step HBx.out HOx.out HGx.out HGT.out.2.1 hown3 hgrow3; have d5 := t5.cell 0; have e5 := t5.frozen 0; simp at d5; have q1 := (append_keeps HOx.out hgrow3 hszz).1; have hB3 : Blk w3 bl 3 #[.int .i64 leave] := (q1.block bl (by have := HGT.out; omega)).trans hblkW.out; have hbl4 := fun (u : Value) => (blk_set_other (i := 0) hB3 (by omega : bl ≠ gt) u).cell 0; simp at hbl4; clear q1 hB3; have T6 := Lib.hid t6; have T7 := Lib.hid t7; have T8 := Lib.hid (t8 ks (fun k hk => ⟨(hks k hk).1, by have := (hks k hk).2; have := HGT.out.2.2; omega⟩)); clear t5 t6 t7 t8 hown3 hgrow3 hnil3 hcc)
          | fail)
        have T6' := T6.out
        have T7' := T7.out
        rw [hj] at T6' T7'
        refine ⟨T7', ?_, rfl, ?_⟩
        · show ColI y2 gt 22 3 ((pre ++ [x]).map fun x => x.1.1) _
          rw [List.map_append]
          exact T6'
        · have h1 := HNL.out
          rw [List.length_append, List.length_singleton]; omega
      · have hd : (((n : Int) + 1) == (m : Int)) = false := by simp; omega
        gi_wp2_with (first
          | (gi_at_lookup; refine wpListIn_lookup_own_int _ rfl _ _ 28 rfl 3 3 .i64 Mw.law Try.underlying28 Try.underlying3 (Mw.zeroI _) B _ D rfl hmapW _ _ rfl hkey ?_; intro cv hat hwc; obtain rfl : cv = x.1.2 := (by rw [HAT.out] at hat; injection hat with hat; injection hat with _ hat; exact hat.symm))
          | (gi_at_builtin; refine wpListIn_append_own _ rfl (.tmp 225) (.tmp 227) 22 rfl y2.heap.size 3 i1 (.int .i64 0) 1 8 Try.underlying22 HJ1.out HJ2.out HJ3.out HJ4.out rfl (by decide) (.slice A n c) n _ rfl (HOx.out.alloc _) ⟨W.heap.size, 0, none⟩ 1 1 [.int .i64 x.1.1] rfl rfl (fun q u hu => by
              rw [addr_add, Nat.zero_add, World.cell?_alloc_mark]; simpa using hu) (by intro u hu; simp at hu; subst hu; rfl) (by unfold maxLen; omega) (by omega) (by simp; omega) ?_; intro v' w3 hown3 hgrow3 hnil3; obtain ⟨g', cap', rfl⟩ := ownsRow_succ hown3; obtain ⟨t5, t6, t7, t8⟩ := colI_step HBx.out HOx.out HGx.out HGT.out.2.1 hown3 hgrow3; have d5 := t5.cell 0; have e5 := t5.frozen 0; simp at d5; have q1 := (append_keeps HOx.out hgrow3 hszz).1; have hB3 : Blk w3 bl 3 #[.int .i64 leave] := (q1.block bl (by have := HGT.out; omega)).trans hblkW.out; have hbl4 := fun (u : Value) => (blk_set_other (i := 0) hB3 (by omega : bl ≠ gt) u).cell 0; simp at hbl4; clear q1 hB3; have T6 := Lib.hid t6; have T7 := Lib.hid t7; have T8 := Lib.hid (t8 ks (fun k hk => ⟨(hks k hk).1, by have := (hks k hk).2; have := HGT.out.2.2; omega⟩)); clear t5 t6 t7 t8 hown3 hgrow3 hnil3 hcc)
          | fail)
        refine ⟨T7.out, T8.out, ?_, ?_⟩
        · show ColI y2 gt 22 3 ((pre ++ [x]).map fun x => x.1.1) _
          rw [List.map_append]
          exact T6.out
        · have h1 := HNL.out
          have h2 := HLT.out
          rw [List.length_append, List.length_singleton]; omega
    case done2 =>
      rintro Dm ys W hDm hys ⟨hI, hlt⟩ hK
      refine ⟨rfl, Dm, rfl, hK, hDm, ?_⟩
      have e1 : (ys.map fun x => x.1.1) = kO fr ss ss.length := by rw [kO_all, ← hys, List.map_map]; rfl
      have e2 : ys.length = (kO fr ss ss.length).length := by rw [← e1, List.length_map]
      rw [List.take_of_length_le (by omega), ← e1]; exact hI
    case stop2 =>
      rintro Dm c pre W hDm hpre ⟨hI, rfl, hlt⟩ hK
      have e1 : (pre.map fun x => x.1.1) <+: kO fr ss ss.length := by
        rw [kO_all]
        have := hpre.map Prod.fst
        rw [List.map_map] at this
        exact this
      have e2 : (pre.map fun x => x.1.1) = (kO fr ss ss.length).take m := by
        have := List.prefix_iff_eq_take.1 e1
        rw [List.length_map, hlt] at this
        exact this
      rw [e2] at hI
      have HIx := Lib.hid hI
      clear hI e1 e2 hpre
      gi_wp2
      exact HIx.out
  · intro Dm W hD hDm hC
    obtain ⟨⟨At, nt, ct, hb1, ho1⟩, hg⟩ := hC
    refine hK _ _ ?_
    have hnt : nt ≤ 100000 := by
      have h1 := ho1.1
      simp only [iv, List.length_map] at h1
      have h2 := kO_len fr ss ss.length
      rw [List.length_take] at h1
      omega
    refine HN.out _ W Dm gt At nt ct ?_ hb1 (Rd.own_ ho1) hnt hD (by have := b2.size; omega) rfl
    exact b2.trans (grown_below hg HGT.out.1 b2.size)
end Py
end Go.Proofs.Yteafbljdlcbckaa
