/- WindPlays: a thing is put. -/
import Derived.Test.YteafbljdlcbckaaPlaysA
import Derived.Deep.DeepCutAuto
namespace Go.Proofs.Yteafbljdlcbckaa
open Go.RowKit Go.Maps
set_option linter.unusedVariables false
namespace Py
theorem byte_i {i : Nat} (h : i < 60) : IntKind.u8.wrap (i : Int) = (i : Int) := by rw [IntKind.wrap_u8']; omega
theorem marks_kept {base base' : Nat} {Ds : List Nat} {S : Obj → Bool} {w w' : World} (h : Mk.Marks base Ds w) (k : Pl.Kept base' S w w') (hs : S (.deferred (some [])) = false) : Mk.Marks base Ds w' :=
  h.kept fun j hj => k.block j _ hj (.inr hs)
set_option maxRecDepth 100000 in
set_option maxHeartbeats 4000000 in
theorem r27 {Q : Exit → Act → World → Prop} (U : Nat → Value) (Ds : List Nat) {f leave k : Int} {a0 : Option Addr} {len0 cap0 : Nat} {w wa : World} {p q bf bl br bh B i fr : Nat} {ss : List (Option Int)} {tt : List (Option WY.V)} {D : DataW Unit}
    (hP : Pl.PlayS w wa p q bf bl br bh B leave i fr ss tt D) (hMk : Mk.Marks w.heap.size Ds wa) (hi60 : i < 60) (hk : -20 ≤ k ∧ k ≤ 80000)
    (hQ : ∀ (T : Array Value) (wx : World) (ss' : List (Option Int)) (tt' : List (Option WY.V)) (D' : DataW Unit), Pl.PlayS w wx p q bf bl br bh B leave (i + 1) fr ss' tt' D' → Mk.Marks w.heap.size Ds wx → T = #[.int .i64 f, .slice a0 len0 cap0, .int .i64 leave, .pointer (some ⟨bf, 0, none⟩), T.toList.getD 4 undef, .pointer (some ⟨bl, 0, none⟩), .pointer (some ⟨br, 0, none⟩), .pointer (some ⟨p, 0, none⟩), .pointer (some ⟨q, 0, none⟩), .pointer (some ⟨bh, 0, none⟩), .func (.func 6) #[] #[.pointer (some ⟨bf, 0, none⟩), .pointer (some ⟨bh, 0, none⟩)], .int .i64 (i : Int), .int .i64 k, T.toList.getD 13 undef, T.toList.getD 14 undef, T.toList.getD 15 undef, T.toList.getD 16 undef, T.toList.getD 17 undef, T.toList.getD 18 undef, T.toList.getD 19 undef, T.toList.getD 20 undef, T.toList.getD 21 undef, T.toList.getD 22 undef, T.toList.getD 23 undef, T.toList.getD 24 undef, T.toList.getD 25 undef, T.toList.getD 26 undef, T.toList.getD 27 undef, T.toList.getD 28 undef, T.toList.getD 29 undef, T.toList.getD 30 undef, T.toList.getD 31 undef, T.toList.getD 32 undef, T.toList.getD 33 undef, T.toList.getD 34 undef, T.toList.getD 35 undef, T.toList.getD 36 undef, T.toList.getD 37 undef, T.toList.getD 38 undef, T.toList.getD 39 undef, T.toList.getD 40 undef, T.toList.getD 41 undef, T.toList.getD 42 undef, T.toList.getD 43 undef, T.toList.getD 44 undef, T.toList.getD 45 undef, T.toList.getD 46 undef, T.toList.getD 47 undef, T.toList.getD 48 undef, T.toList.getD 49 undef, T.toList.getD 50 undef, T.toList.getD 51 undef, T.toList.getD 52 undef, T.toList.getD 53 undef, T.toList.getD 54 undef, T.toList.getD 55 undef, T.toList.getD 56 undef, T.toList.getD 57 undef, T.toList.getD 58 undef, T.toList.getD 59 undef, T.toList.getD 60 undef, T.toList.getD 61 undef, T.toList.getD 62 undef, T.toList.getD 63 undef, T.toList.getD 64 undef, T.toList.getD 65 undef, T.toList.getD 66 undef, T.toList.getD 67 undef, T.toList.getD 68 undef, T.toList.getD 69 undef, T.toList.getD 70 undef, T.toList.getD 71 undef, T.toList.getD 72 undef, T.toList.getD 73 undef, T.toList.getD 74 undef, T.toList.getD 75 undef, T.toList.getD 76 undef, T.toList.getD 77 undef, T.toList.getD 78 undef, T.toList.getD 79 undef, T.toList.getD 80 undef, T.toList.getD 81 undef, T.toList.getD 82 undef, T.toList.getD 83 undef, T.toList.getD 84 undef, T.toList.getD 85 undef, T.toList.getD 86 undef, T.toList.getD 87 undef, T.toList.getD 88 undef, T.toList.getD 89 undef, T.toList.getD 90 undef, T.toList.getD 91 undef, T.toList.getD 92 undef, T.toList.getD 93 undef, T.toList.getD 94 undef, T.toList.getD 95 undef, T.toList.getD 96 undef, T.toList.getD 97 undef, T.toList.getD 98 undef, T.toList.getD 99 undef, T.toList.getD 100 undef, T.toList.getD 101 undef, T.toList.getD 102 undef, T.toList.getD 103 undef, T.toList.getD 104 undef, T.toList.getD 105 undef, T.toList.getD 106 undef, T.toList.getD 107 undef, T.toList.getD 108 undef, T.toList.getD 109 undef, T.toList.getD 110 undef, T.toList.getD 111 undef, T.toList.getD 112 undef, T.toList.getD 113 undef, T.toList.getD 114 undef, T.toList.getD 115 undef, T.toList.getD 116 undef, T.toList.getD 117 undef, T.toList.getD 118 undef, T.toList.getD 119 undef, T.toList.getD 120 undef, T.toList.getD 121 undef, T.toList.getD 122 undef, T.toList.getD 123 undef, T.toList.getD 124 undef, T.toList.getD 125 undef, T.toList.getD 126 undef, T.toList.getD 127 undef, T.toList.getD 128 undef, T.toList.getD 129 undef, T.toList.getD 130 undef, T.toList.getD 131 undef, T.toList.getD 132 undef, T.toList.getD 133 undef, T.toList.getD 134 undef, T.toList.getD 135 undef, T.toList.getD 136 undef, T.toList.getD 137 undef, T.toList.getD 138 undef, T.toList.getD 139 undef, T.toList.getD 140 undef, T.toList.getD 141 undef, T.toList.getD 142 undef, T.toList.getD 143 undef, T.toList.getD 144 undef, T.toList.getD 145 undef, T.toList.getD 146 undef, T.toList.getD 147 undef, T.toList.getD 148 undef, T.toList.getD 149 undef, T.toList.getD 150 undef, T.toList.getD 151 undef, T.toList.getD 152 undef, T.toList.getD 153 undef, T.toList.getD 154 undef, T.toList.getD 155 undef, T.toList.getD 156 undef, T.toList.getD 157 undef, T.toList.getD 158 undef, T.toList.getD 159 undef, T.toList.getD 160 undef, T.toList.getD 161 undef, T.toList.getD 162 undef, T.toList.getD 163 undef, T.toList.getD 164 undef, T.toList.getD 165 undef, T.toList.getD 166 undef, T.toList.getD 167 undef, T.toList.getD 168 undef, T.toList.getD 169 undef, T.toList.getD 170 undef, T.toList.getD 171 undef, T.toList.getD 172 undef, T.toList.getD 173 undef, T.toList.getD 174 undef, T.toList.getD 175 undef, T.toList.getD 176 undef, T.toList.getD 177 undef, T.toList.getD 178 undef, T.toList.getD 179 undef, T.toList.getD 180 undef, T.toList.getD 181 undef, T.toList.getD 182 undef, T.toList.getD 183 undef, T.toList.getD 184 undef, T.toList.getD 185 undef, T.toList.getD 186 undef, T.toList.getD 187 undef, T.toList.getD 188 undef, T.toList.getD 189 undef, T.toList.getD 190 undef, T.toList.getD 191 undef, T.toList.getD 192 undef, T.toList.getD 193 undef, T.toList.getD 194 undef, T.toList.getD 195 undef, T.toList.getD 196 undef, T.toList.getD 197 undef, T.toList.getD 198 undef, T.toList.getD 199 undef, T.toList.getD 200 undef, T.toList.getD 201 undef, T.toList.getD 202 undef, T.toList.getD 203 undef, T.toList.getD 204 undef, T.toList.getD 205 undef, T.toList.getD 206 undef, T.toList.getD 207 undef, T.toList.getD 208 undef, T.toList.getD 209 undef, T.toList.getD 210 undef, T.toList.getD 211 undef, T.toList.getD 212 undef, T.toList.getD 213 undef, T.toList.getD 214 undef, T.toList.getD 215 undef, T.toList.getD 216 undef, T.toList.getD 217 undef, T.toList.getD 218 undef, T.toList.getD 219 undef, T.toList.getD 220 undef, T.toList.getD 221 undef, T.toList.getD 222 undef, T.toList.getD 223 undef, T.toList.getD 224 undef, T.toList.getD 225 undef, T.toList.getD 226 undef, T.toList.getD 227 undef, T.toList.getD 228 undef, T.toList.getD 229 undef, T.toList.getD 230 undef, T.toList.getD 231 undef, T.toList.getD 232 undef, T.toList.getD 233 undef, T.toList.getD 234 undef, T.toList.getD 235 undef, T.toList.getD 236 undef, T.toList.getD 237 undef, T.toList.getD 238 undef, T.toList.getD 239 undef, T.toList.getD 240 undef, T.toList.getD 241 undef, T.toList.getD 242 undef, T.toList.getD 243 undef, T.toList.getD 244 undef, T.toList.getD 245 undef, T.toList.getD 246 undef, T.toList.getD 247 undef, T.toList.getD 248 undef, T.toList.getD 249 undef, T.toList.getD 250 undef, T.toList.getD 251 undef, T.toList.getD 252 undef, T.toList.getD 253 undef, T.toList.getD 254 undef, T.toList.getD 255 undef, T.toList.getD 256 undef, T.toList.getD 257 undef, T.toList.getD 258 undef, T.toList.getD 259 undef, T.toList.getD 260 undef, T.toList.getD 261 undef, T.toList.getD 262 undef, T.toList.getD 263 undef, T.toList.getD 264 undef, T.toList.getD 265 undef, T.toList.getD 266 undef, T.toList.getD 267 undef, T.toList.getD 268 undef, T.toList.getD 269 undef, T.toList.getD 270 undef, T.toList.getD 271 undef, T.toList.getD 272 undef, T.toList.getD 273 undef, T.toList.getD 274 undef, T.toList.getD 275 undef, T.toList.getD 276 undef, T.toList.getD 277 undef, T.toList.getD 278 undef, T.toList.getD 279 undef, T.toList.getD 280 undef, T.toList.getD 281 undef, T.toList.getD 282 undef, T.toList.getD 283 undef, T.toList.getD 284 undef, T.toList.getD 285 undef, T.toList.getD 286 undef, T.toList.getD 287 undef, T.toList.getD 288 undef, T.toList.getD 289 undef, T.toList.getD 290 undef, T.toList.getD 291 undef, T.toList.getD 292 undef, T.toList.getD 293 undef, T.toList.getD 294 undef, T.toList.getD 295 undef, T.toList.getD 296 undef, T.toList.getD 297 undef, T.toList.getD 298 undef, T.toList.getD 299 undef, T.toList.getD 300 undef, T.toList.getD 301 undef, T.toList.getD 302 undef, T.toList.getD 303 undef, T.toList.getD 304 undef, T.toList.getD 305 undef, T.toList.getD 306 undef, T.toList.getD 307 undef, T.toList.getD 308 undef, T.toList.getD 309 undef, T.toList.getD 310 undef, T.toList.getD 311 undef, T.toList.getD 312 undef] → Q .normal { tmps := T, defers := Ds.map Mk.mark } wx) :
    Code.wp Try.prog (rest 27) Q { tmps := #[.int .i64 f, .slice a0 len0 cap0, .int .i64 leave, .pointer (some ⟨bf, 0, none⟩), U 4, .pointer (some ⟨bl, 0, none⟩), .pointer (some ⟨br, 0, none⟩), .pointer (some ⟨p, 0, none⟩), .pointer (some ⟨q, 0, none⟩), .pointer (some ⟨bh, 0, none⟩), .func (.func 6) #[] #[.pointer (some ⟨bf, 0, none⟩), .pointer (some ⟨bh, 0, none⟩)], .int .i64 (i : Int), .int .i64 k, U 13, U 14, U 15, U 16, U 17, U 18, U 19, U 20, U 21, U 22, U 23, U 24, U 25, U 26, U 27, U 28, U 29, U 30, U 31, U 32, U 33, U 34, U 35, U 36, U 37, U 38, U 39, U 40, U 41, U 42, U 43, U 44, U 45, U 46, U 47, U 48, U 49, U 50, U 51, U 52, U 53, U 54, U 55, U 56, U 57, U 58, U 59, U 60, U 61, U 62, U 63, U 64, U 65, U 66, U 67, U 68, U 69, U 70, U 71, U 72, U 73, U 74, U 75, U 76, U 77, U 78, U 79, U 80, U 81, U 82, U 83, U 84, U 85, U 86, U 87, U 88, U 89, U 90, U 91, U 92, U 93, U 94, U 95, U 96, U 97, U 98, U 99, U 100, U 101, U 102, U 103, U 104, U 105, U 106, U 107, U 108, U 109, U 110, U 111, U 112, U 113, U 114, U 115, U 116, U 117, U 118, U 119, U 120, U 121, U 122, U 123, U 124, U 125, U 126, U 127, U 128, U 129, U 130, U 131, U 132, U 133, U 134, U 135, U 136, U 137, U 138, U 139, U 140, U 141, U 142, U 143, U 144, U 145, U 146, U 147, U 148, U 149, U 150, U 151, U 152, U 153, U 154, U 155, U 156, U 157, U 158, U 159, U 160, U 161, U 162, U 163, U 164, U 165, U 166, U 167, U 168, U 169, U 170, U 171, U 172, U 173, U 174, U 175, U 176, U 177, U 178, U 179, U 180, U 181, U 182, U 183, U 184, U 185, U 186, U 187, U 188, U 189, U 190, U 191, U 192, U 193, U 194, U 195, U 196, U 197, U 198, U 199, U 200, U 201, U 202, U 203, U 204, U 205, U 206, U 207, U 208, U 209, U 210, U 211, U 212, U 213, U 214, U 215, U 216, U 217, U 218, U 219, U 220, U 221, U 222, U 223, U 224, U 225, U 226, U 227, U 228, U 229, U 230, U 231, U 232, U 233, U 234, U 235, U 236, U 237, U 238, U 239, U 240, U 241, U 242, U 243, U 244, U 245, U 246, U 247, U 248, U 249, U 250, U 251, U 252, U 253, U 254, U 255, U 256, U 257, U 258, U 259, U 260, U 261, U 262, U 263, U 264, U 265, U 266, U 267, U 268, U 269, U 270, U 271, U 272, U 273, U 274, U 275, U 276, U 277, U 278, U 279, U 280, U 281, U 282, U 283, U 284, U 285, U 286, U 287, U 288, U 289, U 290, U 291, U 292, U 293, U 294, U 295, U 296, U 297, U 298, U 299, U 300, U 301, U 302, U 303, U 304, U 305, U 306, U 307, U 308, U 309, U 310, U 311, U 312], defers := Ds.map Mk.mark } wa := by
  conv => arg 2; whnf
  have hlen := hP.len
  have hll := Wd.lead_le ss
  have hfr : fr + ss.length ≤ 70000 := by omega
  have hfl : fr + Wd.lead ss ≤ 70000 := by omega
  have HFS := Lib.hid (show WI.Fit (fr + ss.length) by unfold WI.Fit; omega)
  have HFW := Lib.hid (show WI.Fit (fr + Wd.lead ss) by unfold WI.Fit; omega)
  have hbf := hP.pf.cell 0
  have hbh := hP.ph.cell 0
  simp at hbf hbh
  have hmap := hP.map
  have hwf : (Lit.int .i64 k).wf = true := WalkArith.wf_i64 (by omega)
  have hkey := keyOf_int_mk (P := Try.prog) Try.underlying3 hwf
  have hhas := hP.tie.has k hwf
  have hbi := byte_i hi60
  have HP := Lib.hid hP
  have HMk := Lib.hid hMk
  have HQ := Lib.hid hQ
  clear hP hMk hQ hlen hll
  by_cases h1 : (fr : Int) < k
  · by_cases h2 : k ≤ ((fr + Wd.lead ss : Nat) : Int) + 64
    · by_cases h3 : Wd.hasB fr ss k = true
      · rw [h3] at hhas
        have HH := Lib.hid h3
        clear h3
        go_wp2_with (first
          | (at_lookup; refine wpList_lookup_own_ok_int _ rfl _ _ 28 rfl 3 3 .i64 Mw.law Try.underlying28 Try.underlying3 (Mw.zeroI _) B _ D rfl hmap _ _ rfl hkey ?_; intro c hat hwc; rw [hhas])
          | (go_at_call 6; refine (Mw.whole_any wa bf bh B i D fr ss hbf hbh hmap HP.out.tie HFS.out).mono ?_; rintro e w' ⟨rfl, hw⟩; have hw := hw.symm; subst hw)
          | fail)
        refine (WI.put_no _ _ _ _ _ _ HP.out.win HFW.out k _ (.inr (.inr HH.out))).mono ?_
        rintro e u1 ⟨rfl, hb1⟩
        have HP1 := Lib.hid (HP.out.keep hb1)
        have HM1 := Lib.hid (HMk.out.below hb1)
        clear hb1 hmap hbf hbh
        go_wp2_with fail
        have b2 : Below u1.heap.size u1 (u1.alloc (.cells #[.int .u8 (i : Int)] 5)) := (Below.refl _ _).alloc (Nat.le_refl _) _
        refine (WY.put_no _ _ _ _ _ _ (HP1.out.keep b2).wiy (by have := HFW.out; have := HP1.out.two.lead; unfold WY.Fit; unfold WI.Fit at this; omega) k ((some (⟨u1.heap.size, 0, none⟩ : Addr), 1, 1) : WY.V) (.inr (.inr (by rw [HP1.out.two.hasB]; exact HH.out)))).mono ?_
        rintro e u2 ⟨rfl, hb2⟩
        have HP2 := Lib.hid ((HP1.out.keep b2).keep hb2).next
        have HM2 := Lib.hid ((HM1.out.below b2).below hb2)
        clear b2 hb2
        go_wp2_with fail
        exact HQ.out _ _ _ _ _ HP2.out HM2.out rfl
      · have h3' : Wd.hasB fr ss k = false := by simpa using h3
        rw [h3'] at hhas
        obtain ⟨j, hj⟩ : ∃ j : Nat, k = ((fr + 1 + j : Nat) : Int) := ⟨(k - fr - 1).toNat, by omega⟩
        subst hj
        have hno : ss[j]?.join = none := by
          rw [Wd.hasB_join] at h3'
          have e1 : (((fr + 1 + j : Nat) : Int) - fr - 1).toNat = j := by omega
          rw [e1] at h3'
          simp only [Bool.and_eq_false_iff, decide_eq_false_iff_not] at h3'
          rcases h3' with h | h
          · omega
          · cases hq : ss[j]?.join
            · rfl
            · rw [hq] at h; cases h
        have HNO := Lib.hid hno
        have HJ := Lib.hid (show j < Wd.lead ss + 64 ∧ fr + j + 1 ≤ 80000 by omega)
        clear h3 h3' hno
        go_wp2_with (first
          | (at_lookup; refine wpList_lookup_own_ok_int _ rfl _ _ 28 rfl 3 3 .i64 Mw.law Try.underlying28 Try.underlying3 (Mw.zeroI _) B _ D rfl hmap _ _ rfl hkey ?_; intro c hat hwc; rw [hhas])
          | (go_at_call 6; refine (Mw.whole_any wa bf bh B i D fr ss hbf hbh hmap HP.out.tie HFS.out).mono ?_; rintro e w' ⟨rfl, hw⟩; have hw := hw.symm; subst hw)
          | fail)
        refine (WI.put_is HP.out.win HP.out.bel.size rfl _ j (i : Int) (Wd.laid ss j (i : Int)) _ (by omega) (by have := HJ.out; omega) HNO.out (by have := HJ.out; unfold WI.Fit; omega) rfl rfl).mono ?_
        rintro e u1 ⟨rfl, hw1, t1⟩
        have K1 : Pl.Kept w.heap.size Pl.sW wa u1 := Pl.Kept.of_turnsI t1
        have HK1 := Lib.hid K1
        have HW1 := Lib.hid hw1
        have HY1 := Lib.hid (HP.out.wiy.turnsI t1)
        have hbh1 := (K1.blk HP.out.ph rfl).cell 0
        simp at hbh1
        have hsz1 : w.heap.size ≤ u1.heap.size := Nat.le_trans HP.out.bel.size K1.size
        clear hmap hbf hbh hw1 t1 K1
        go_wp2_with fail
        have b2 : Below u1.heap.size u1 (u1.alloc (.cells #[.int .u8 (i : Int)] 5)) := (Below.refl _ _).alloc (Nat.le_refl _) _
        have hnoY : tt[j]?.join = none := (HP.out.two.2 j).1 HNO.out
        have hleadY := HP.out.two.lead
        have hrow : RdT (u1.alloc (.cells #[.int .u8 (i : Int)] 5)) 5 (some ⟨u1.heap.size, 0, none⟩) 1 (bv [i]) := by
          refine ⟨rfl, fun _ => ⟨u1.heap.size, 0, #[.int .u8 (i : Int)], rfl, Blk.new u1 _ _, ?_⟩⟩
          intro q hq
          have hq0 : q = 0 := by omega
          subst hq0
          rfl
        have HR2 := Lib.hid hrow
        have HB2 := Lib.hid b2
        refine (WY.put_is (HY1.out.below b2) (by simp; omega) (by rw [hleadY]) _ j ((some (⟨u1.heap.size, 0, none⟩ : Addr), 1, 1) : WY.V) (Wd.laid tt j ((some (⟨u1.heap.size, 0, none⟩ : Addr), 1, 1) : WY.V)) _ (by omega) (by have := HJ.out; omega) hnoY (by have := HJ.out; unfold WY.Fit; omega) rfl rfl).mono ?_
        rintro e u2 ⟨rfl, hw2, t2⟩
        have K2 : Pl.Kept w.heap.size Pl.sW wa u2 := (HK1.out.trans (Pl.Kept.of_below HB2.out)).trans (Pl.Kept.of_turnsY t2)
        have HK2 := Lib.hid K2
        have HW2 := Lib.hid ((HW1.out.below HB2.out).turnsY t2)
        have HY2 := Lib.hid hw2
        have HR := Lib.hid ((Pl.Kept.of_turnsY t2).rdT HR2.out (fun cs => rfl))
        have hbh2 := (K2.blk HP.out.ph rfl).cell 0
        simp at hbh2
        have hmap2 := K2.own HP.out.map
        have hwi : (Lit.int .i64 (i : Int)).wf = true := WalkArith.wf_i64 (by omega)
        have hi3 : i < maxLen := by unfold maxLen; omega
        clear hbh1 hw2 t2 K2 hrow b2 hnoY hleadY
        go_wp2_with (first
          | (at_mapUpdate; refine wpList_mapUpdate_own _ rfl _ _ _ 28 rfl 3 3 Mw.law Try.underlying28 (plainElem Try.prog 3) B i D rfl hmap2 hi3 _ _ _ rfl rfl hkey _ [] (plainElem_int Try.underlying3 hwi) ?_; intro u3 hown3 hg3)
          | fail)
        have K3 : Pl.Kept w.heap.size Pl.sM u2 u3 := Pl.Kept.of_map hmap2 HP.out.apart.2.2.1 hg3
        have KA : Pl.Kept w.heap.size Pl.sA wa u3 := (HK2.out.weak (fun o h => by unfold Pl.sA; simp [h])).trans (K3.weak (fun o h => by unfold Pl.sA; simp [h]))
        refine HQ.out _ u3 _ _ _ (HP.out.put j _ 1 hi60 HJ.out.1 KA (K3.winI Pl.sM_I HW2.out) ?_ (K3.rdT HR.out (fun cs => rfl)) hown3) (marks_kept HMk.out KA rfl) rfl
        have e := K3.winY Pl.sM_Y HY2.out
        have el : Wd.lead (Wd.laid tt j ((some (⟨u1.heap.size, 0, none⟩ : Addr), 1, 1) : WY.V)) = Wd.lead (Wd.laid ss j (i : Int)) := (HP.out.two.kept (HK2.out) (fun _ => rfl) |>.put j (i : Int) _ 1 (by simpa using HR.out)).lead
        rw [el] at e
        exact e
    · have h2' : ((fr + Wd.lead ss : Nat) : Int) + 64 < k := by omega
      have HH := Lib.hid h2'
      obtain ⟨o, ho⟩ : ∃ o, Wd.hasB fr ss k = o := ⟨_, rfl⟩
      rw [ho] at hhas
      go_wp2_with (first
        | (at_lookup; refine wpList_lookup_own_ok_int _ rfl _ _ 28 rfl 3 3 .i64 Mw.law Try.underlying28 Try.underlying3 (Mw.zeroI _) B _ D rfl hmap _ _ rfl hkey ?_; intro c hat hwc; rw [hhas])
        | (go_at_call 6; refine (Mw.whole_any wa bf bh B i D fr ss hbf hbh hmap HP.out.tie HFS.out).mono ?_; rintro e w' ⟨rfl, hw⟩; have hw := hw.symm; subst hw)
        | fail)
      refine (WI.put_no _ _ _ _ _ _ HP.out.win HFW.out k _ (.inr (.inl (by have := HH.out; omega)))).mono ?_
      rintro e u1 ⟨rfl, hb1⟩
      have HP1 := Lib.hid (HP.out.keep hb1)
      have HM1 := Lib.hid (HMk.out.below hb1)
      clear hb1 hmap hbf hbh
      go_wp2_with fail
      have b2 : Below u1.heap.size u1 (u1.alloc (.cells #[.int .u8 (i : Int)] 5)) := (Below.refl _ _).alloc (Nat.le_refl _) _
      refine (WY.put_no _ _ _ _ _ _ (HP1.out.keep b2).wiy (by have := HFW.out; have := HP1.out.two.lead; unfold WY.Fit; unfold WI.Fit at this; omega) k ((some (⟨u1.heap.size, 0, none⟩ : Addr), 1, 1) : WY.V) (.inr (.inl (by have := HH.out; omega)))).mono ?_
      rintro e u2 ⟨rfl, hb2⟩
      have HP2 := Lib.hid ((HP1.out.keep b2).keep hb2).next
      have HM2 := Lib.hid ((HM1.out.below b2).below hb2)
      clear b2 hb2
      go_wp2_with fail
      exact HQ.out _ _ _ _ _ HP2.out HM2.out rfl
  · have h1' : k ≤ (fr : Int) := by omega
    have HH := Lib.hid h1'
    obtain ⟨o, ho⟩ : ∃ o, Wd.hasB fr ss k = o := ⟨_, rfl⟩
    rw [ho] at hhas
    go_wp2_with (first
      | (at_lookup; refine wpList_lookup_own_ok_int _ rfl _ _ 28 rfl 3 3 .i64 Mw.law Try.underlying28 Try.underlying3 (Mw.zeroI _) B _ D rfl hmap _ _ rfl hkey ?_; intro c hat hwc; rw [hhas])
      | (go_at_call 6; refine (Mw.whole_any wa bf bh B i D fr ss hbf hbh hmap HP.out.tie HFS.out).mono ?_; rintro e w' ⟨rfl, hw⟩; have hw := hw.symm; subst hw)
      | fail)
    refine (WI.put_no _ _ _ _ _ _ HP.out.win HFW.out k _ (.inl HH.out)).mono ?_
    rintro e u1 ⟨rfl, hb1⟩
    have HP1 := Lib.hid (HP.out.keep hb1)
    have HM1 := Lib.hid (HMk.out.below hb1)
    clear hb1 hmap hbf hbh
    go_wp2_with fail
    have b2 : Below u1.heap.size u1 (u1.alloc (.cells #[.int .u8 (i : Int)] 5)) := (Below.refl _ _).alloc (Nat.le_refl _) _
    refine (WY.put_no _ _ _ _ _ _ (HP1.out.keep b2).wiy (by have := HFW.out; have := HP1.out.two.lead; unfold WY.Fit; unfold WI.Fit at this; omega) k ((some (⟨u1.heap.size, 0, none⟩ : Addr), 1, 1) : WY.V) (.inl HH.out)).mono ?_
    rintro e u2 ⟨rfl, hb2⟩
    have HP2 := Lib.hid ((HP1.out.keep b2).keep hb2).next
    have HM2 := Lib.hid ((HM1.out.below b2).below hb2)
    clear b2 hb2
    go_wp2_with fail
    exact HQ.out _ _ _ _ _ HP2.out HM2.out rfl
end Py
end Go.Proofs.Yteafbljdlcbckaa
