/- WindPlays: the number that a round asks for. -/
import Derived.Test.YteafbljdlcbckaaPlaysR14b
import Derived.Deep.QuietTactic
import Derived.BigQuiet
import Derived.Deep.RegionHeld
import Derived.Deep.RegionHeld3
import Derived.Deep.DrawnRows
namespace Go.Proofs.Yteafbljdlcbckaa
open Go.RowKit Go.Maps
set_option linter.unusedVariables false
namespace Py
set_option maxRecDepth 100000 in
theorem r14T {Q : Exit → Act → World → Prop} {Ds : List Nat} {f leave k x : Int} {a0 : Option Addr} {len0 cap0 gz oz : Nat} {w wa : World} {p q bf bl br bh B i fr : Nat} {ss : List (Option Int)} {tt : List (Option WY.V)} {D : DataW Unit} (T : Array Value) (hT : T = #[.int .i64 f, .slice a0 len0 cap0, .int .i64 leave, .pointer (some ⟨bf, 0, none⟩), T.toList.getD 4 undef, .pointer (some ⟨bl, 0, none⟩), .pointer (some ⟨br, 0, none⟩), .pointer (some ⟨p, 0, none⟩), .pointer (some ⟨q, 0, none⟩), .pointer (some ⟨bh, 0, none⟩), .func (.func 6) #[] #[.pointer (some ⟨bf, 0, none⟩), .pointer (some ⟨bh, 0, none⟩)], .int .i64 (i : Int), .int .i64 k, T.toList.getD 13 undef, T.toList.getD 14 undef, T.toList.getD 15 undef, T.toList.getD 16 undef, T.toList.getD 17 undef, T.toList.getD 18 undef, T.toList.getD 19 undef, T.toList.getD 20 undef, T.toList.getD 21 undef, T.toList.getD 22 undef, T.toList.getD 23 undef, T.toList.getD 24 undef, T.toList.getD 25 undef, T.toList.getD 26 undef, T.toList.getD 27 undef, T.toList.getD 28 undef, T.toList.getD 29 undef, T.toList.getD 30 undef, T.toList.getD 31 undef, T.toList.getD 32 undef, T.toList.getD 33 undef, T.toList.getD 34 undef, T.toList.getD 35 undef, T.toList.getD 36 undef, T.toList.getD 37 undef, T.toList.getD 38 undef, T.toList.getD 39 undef, T.toList.getD 40 undef, T.toList.getD 41 undef, T.toList.getD 42 undef, T.toList.getD 43 undef, T.toList.getD 44 undef, T.toList.getD 45 undef, T.toList.getD 46 undef, T.toList.getD 47 undef, T.toList.getD 48 undef, T.toList.getD 49 undef, T.toList.getD 50 undef, T.toList.getD 51 undef, T.toList.getD 52 undef, T.toList.getD 53 undef, T.toList.getD 54 undef, T.toList.getD 55 undef, T.toList.getD 56 undef, T.toList.getD 57 undef, T.toList.getD 58 undef, T.toList.getD 59 undef, T.toList.getD 60 undef, T.toList.getD 61 undef, T.toList.getD 62 undef, T.toList.getD 63 undef, T.toList.getD 64 undef, T.toList.getD 65 undef, T.toList.getD 66 undef, T.toList.getD 67 undef, T.toList.getD 68 undef, T.toList.getD 69 undef, T.toList.getD 70 undef, T.toList.getD 71 undef, T.toList.getD 72 undef, T.toList.getD 73 undef, T.toList.getD 74 undef, T.toList.getD 75 undef, T.toList.getD 76 undef, T.toList.getD 77 undef, T.toList.getD 78 undef, T.toList.getD 79 undef, T.toList.getD 80 undef, T.toList.getD 81 undef, T.toList.getD 82 undef, T.toList.getD 83 undef, T.toList.getD 84 undef, T.toList.getD 85 undef, T.toList.getD 86 undef, T.toList.getD 87 undef, T.toList.getD 88 undef, T.toList.getD 89 undef, T.toList.getD 90 undef, T.toList.getD 91 undef, T.toList.getD 92 undef, T.toList.getD 93 undef, T.toList.getD 94 undef, T.toList.getD 95 undef, T.toList.getD 96 undef, T.toList.getD 97 undef, T.toList.getD 98 undef, T.toList.getD 99 undef, T.toList.getD 100 undef, T.toList.getD 101 undef, T.toList.getD 102 undef, T.toList.getD 103 undef, T.toList.getD 104 undef, T.toList.getD 105 undef, T.toList.getD 106 undef, T.toList.getD 107 undef, T.toList.getD 108 undef, T.toList.getD 109 undef, T.toList.getD 110 undef, T.toList.getD 111 undef, T.toList.getD 112 undef, T.toList.getD 113 undef, T.toList.getD 114 undef, T.toList.getD 115 undef, T.toList.getD 116 undef, T.toList.getD 117 undef, T.toList.getD 118 undef, T.toList.getD 119 undef, T.toList.getD 120 undef, T.toList.getD 121 undef, T.toList.getD 122 undef, T.toList.getD 123 undef, T.toList.getD 124 undef, T.toList.getD 125 undef, T.toList.getD 126 undef, T.toList.getD 127 undef, T.toList.getD 128 undef, T.toList.getD 129 undef, T.toList.getD 130 undef, T.toList.getD 131 undef, T.toList.getD 132 undef, T.toList.getD 133 undef, T.toList.getD 134 undef, T.toList.getD 135 undef, T.toList.getD 136 undef, T.toList.getD 137 undef, T.toList.getD 138 undef, T.toList.getD 139 undef, T.toList.getD 140 undef, T.toList.getD 141 undef, T.toList.getD 142 undef, T.toList.getD 143 undef, T.toList.getD 144 undef, T.toList.getD 145 undef, T.toList.getD 146 undef, T.toList.getD 147 undef, T.toList.getD 148 undef, T.toList.getD 149 undef, T.toList.getD 150 undef, T.toList.getD 151 undef, T.toList.getD 152 undef, T.toList.getD 153 undef, T.toList.getD 154 undef, T.toList.getD 155 undef, T.toList.getD 156 undef, T.toList.getD 157 undef, T.toList.getD 158 undef, T.toList.getD 159 undef, T.toList.getD 160 undef, T.toList.getD 161 undef, T.toList.getD 162 undef, T.toList.getD 163 undef, T.toList.getD 164 undef, T.toList.getD 165 undef, T.toList.getD 166 undef, T.toList.getD 167 undef, T.toList.getD 168 undef, T.toList.getD 169 undef, T.toList.getD 170 undef, T.toList.getD 171 undef, T.toList.getD 172 undef, T.toList.getD 173 undef, T.toList.getD 174 undef, T.toList.getD 175 undef, T.toList.getD 176 undef, T.toList.getD 177 undef, T.toList.getD 178 undef, T.toList.getD 179 undef, T.toList.getD 180 undef, T.toList.getD 181 undef, T.toList.getD 182 undef, T.toList.getD 183 undef, T.toList.getD 184 undef, T.toList.getD 185 undef, T.toList.getD 186 undef, T.toList.getD 187 undef, T.toList.getD 188 undef, T.toList.getD 189 undef, T.toList.getD 190 undef, T.toList.getD 191 undef, T.toList.getD 192 undef, T.toList.getD 193 undef, T.toList.getD 194 undef, T.toList.getD 195 undef, T.toList.getD 196 undef, T.toList.getD 197 undef, T.toList.getD 198 undef, T.toList.getD 199 undef, T.toList.getD 200 undef, T.toList.getD 201 undef, T.toList.getD 202 undef, T.toList.getD 203 undef, T.toList.getD 204 undef, T.toList.getD 205 undef, T.toList.getD 206 undef, T.toList.getD 207 undef, T.toList.getD 208 undef, T.toList.getD 209 undef, T.toList.getD 210 undef, T.toList.getD 211 undef, T.toList.getD 212 undef, T.toList.getD 213 undef, T.toList.getD 214 undef, T.toList.getD 215 undef, T.toList.getD 216 undef, T.toList.getD 217 undef, T.toList.getD 218 undef, T.toList.getD 219 undef, T.toList.getD 220 undef, T.toList.getD 221 undef, T.toList.getD 222 undef, T.toList.getD 223 undef, T.toList.getD 224 undef, T.toList.getD 225 undef, T.toList.getD 226 undef, T.toList.getD 227 undef, T.toList.getD 228 undef, T.toList.getD 229 undef, T.toList.getD 230 undef, T.toList.getD 231 undef, T.toList.getD 232 undef, T.toList.getD 233 undef, T.toList.getD 234 undef, T.toList.getD 235 undef, T.toList.getD 236 undef, T.toList.getD 237 undef, T.toList.getD 238 undef, T.toList.getD 239 undef, T.toList.getD 240 undef, T.toList.getD 241 undef, T.toList.getD 242 undef, T.toList.getD 243 undef, T.toList.getD 244 undef, T.toList.getD 245 undef, T.toList.getD 246 undef, T.toList.getD 247 undef, T.toList.getD 248 undef, T.toList.getD 249 undef, T.toList.getD 250 undef, T.toList.getD 251 undef, T.toList.getD 252 undef, T.toList.getD 253 undef, T.toList.getD 254 undef, T.toList.getD 255 undef, T.toList.getD 256 undef, T.toList.getD 257 undef, T.toList.getD 258 undef, T.toList.getD 259 undef, T.toList.getD 260 undef, T.toList.getD 261 undef, T.toList.getD 262 undef, T.toList.getD 263 undef, T.toList.getD 264 undef, T.toList.getD 265 undef, T.toList.getD 266 undef, T.toList.getD 267 undef, T.toList.getD 268 undef, T.toList.getD 269 undef, T.toList.getD 270 undef, T.toList.getD 271 undef, T.toList.getD 272 undef, T.toList.getD 273 undef, T.toList.getD 274 undef, T.toList.getD 275 undef, T.toList.getD 276 undef, T.toList.getD 277 undef, T.toList.getD 278 undef, T.toList.getD 279 undef, T.toList.getD 280 undef, T.toList.getD 281 undef, T.toList.getD 282 undef, T.toList.getD 283 undef, T.toList.getD 284 undef, T.toList.getD 285 undef, T.toList.getD 286 undef, T.toList.getD 287 undef, T.toList.getD 288 undef, T.toList.getD 289 undef, T.toList.getD 290 undef, T.toList.getD 291 undef, T.toList.getD 292 undef, T.toList.getD 293 undef, T.toList.getD 294 undef, T.toList.getD 295 undef, T.toList.getD 296 undef, T.toList.getD 297 undef, T.toList.getD 298 undef, T.toList.getD 299 undef, T.toList.getD 300 undef, T.toList.getD 301 undef, T.toList.getD 302 undef, T.toList.getD 303 undef, T.toList.getD 304 undef, T.toList.getD 305 undef, T.toList.getD 306 undef, T.toList.getD 307 undef, T.toList.getD 308 undef, T.toList.getD 309 undef, T.toList.getD 310 undef, T.toList.getD 311 undef, T.toList.getD 312 undef])
    (hA : Act1 w a0 len0 i x gz oz) (hP : Pl.PlayS w wa p q bf bl br bh B leave i fr ss tt D) (hMk : Mk.Marks w.heap.size Ds wa) (hk : -20 ≤ k ∧ k ≤ 80000)
    (hQ : ∀ a' w', FinI f a0 len0 cap0 leave w p q bf bl br bh B i a' w' → Q .normal a' w') :
    Code.wp Try.prog (rest 14) Q { tmps := T, defers := Ds.map Mk.mark } wa := by
  rw [hT]
  exact r14 (fun n => T.toList.getD n undef) Ds hA hP hMk hk hQ
set_option maxRecDepth 100000 in
set_option maxHeartbeats 4000000 in
theorem r11 {Q : Exit → Act → World → Prop} (U : Nat → Value) (Ds : List Nat) {f leave x : Int} {a0 : Option Addr} {len0 cap0 gz oz : Nat} {w wa : World} {p q bf bl br bh B i fr : Nat} {ss : List (Option Int)} {tt : List (Option WY.V)} {D : DataW Unit}
    (hA : Act1 w a0 len0 i x gz oz) (hP : Pl.PlayS w wa p q bf bl br bh B leave i fr ss tt D) (hMk : Mk.Marks w.heap.size Ds wa)
    (hQ : ∀ a' w', FinI f a0 len0 cap0 leave w p q bf bl br bh B i a' w' → Q .normal a' w') :
    Code.wp Try.prog (rest 11) Q { tmps := #[.int .i64 f, .slice a0 len0 cap0, .int .i64 leave, .pointer (some ⟨bf, 0, none⟩), U 4, .pointer (some ⟨bl, 0, none⟩), .pointer (some ⟨br, 0, none⟩), .pointer (some ⟨p, 0, none⟩), .pointer (some ⟨q, 0, none⟩), .pointer (some ⟨bh, 0, none⟩), .func (.func 6) #[] #[.pointer (some ⟨bf, 0, none⟩), .pointer (some ⟨bh, 0, none⟩)], .int .i64 (i : Int), U 12, U 13, U 14, U 15, U 16, U 17, U 18, U 19, U 20, U 21, U 22, U 23, U 24, U 25, U 26, U 27, U 28, U 29, U 30, U 31, U 32, U 33, U 34, U 35, U 36, U 37, U 38, U 39, U 40, U 41, U 42, U 43, U 44, U 45, U 46, U 47, U 48, U 49, U 50, U 51, U 52, U 53, U 54, U 55, U 56, U 57, U 58, U 59, U 60, U 61, U 62, U 63, U 64, U 65, U 66, U 67, U 68, U 69, U 70, U 71, U 72, U 73, U 74, U 75, U 76, U 77, U 78, U 79, U 80, U 81, U 82, U 83, U 84, U 85, U 86, U 87, U 88, U 89, U 90, U 91, U 92, U 93, U 94, U 95, U 96, U 97, U 98, U 99, U 100, U 101, U 102, U 103, U 104, U 105, U 106, U 107, U 108, U 109, U 110, U 111, U 112, U 113, U 114, U 115, U 116, U 117, U 118, U 119, U 120, U 121, U 122, U 123, U 124, U 125, U 126, U 127, U 128, U 129, U 130, U 131, U 132, U 133, U 134, U 135, U 136, U 137, U 138, U 139, U 140, U 141, U 142, U 143, U 144, U 145, U 146, U 147, U 148, U 149, U 150, U 151, U 152, U 153, U 154, U 155, U 156, U 157, U 158, U 159, U 160, U 161, U 162, U 163, U 164, U 165, U 166, U 167, U 168, U 169, U 170, U 171, U 172, U 173, U 174, U 175, U 176, U 177, U 178, U 179, U 180, U 181, U 182, U 183, U 184, U 185, U 186, U 187, U 188, U 189, U 190, U 191, U 192, U 193, U 194, U 195, U 196, U 197, U 198, U 199, U 200, U 201, U 202, U 203, U 204, U 205, U 206, U 207, U 208, U 209, U 210, U 211, U 212, U 213, U 214, U 215, U 216, U 217, U 218, U 219, U 220, U 221, U 222, U 223, U 224, U 225, U 226, U 227, U 228, U 229, U 230, U 231, U 232, U 233, U 234, U 235, U 236, U 237, U 238, U 239, U 240, U 241, U 242, U 243, U 244, U 245, U 246, U 247, U 248, U 249, U 250, U 251, U 252, U 253, U 254, U 255, U 256, U 257, U 258, U 259, U 260, U 261, U 262, U 263, U 264, U 265, U 266, U 267, U 268, U 269, U 270, U 271, U 272, U 273, U 274, U 275, U 276, U 277, U 278, U 279, U 280, U 281, U 282, U 283, U 284, U 285, U 286, U 287, U 288, U 289, U 290, U 291, U 292, U 293, U 294, U 295, U 296, U 297, U 298, U 299, U 300, U 301, U 302, U 303, U 304, U 305, U 306, U 307, U 308, U 309, U 310, U 311, U 312], defers := Ds.map Mk.mark } wa := by
  refine wp_calm ?_
  have hQ' : ∀ a' w', FinI f a0 len0 cap0 leave w p q bf bl br bh B i a' w' → calm Q .normal a' w' := hQ
  have HA := Lib.hid hA
  obtain ⟨rfl, hgz, hcz, hi, hi60, htop⟩ := hA
  conv => arg 2; whnf
  have hcx : wa.cell? ⟨gz, oz + i, none⟩ = some (.int .i64 x) := (hP.bel.cell (p := ⟨gz, oz + i, none⟩) hgz).trans hcz
  have HCX := Lib.hid hcx
  have hcf := hP.pf.cell 0
  have hbh := hP.ph.cell 0
  simp at hcf hbh
  have e127 := and_127 (x / 8)
  have e3 := and_3 (x / 8)
  have hll := Wd.lead_le ss
  have hlen := hP.len
  have HFL := Lib.hid (show fr + ss.length ≤ 70000 ∧ fr + Wd.lead ss ≤ 70000 by omega)
  have hfr : fr ≤ 70000 := by omega
  have HWH := Lib.hid (fun (u : World) (hu : Below wa.heap.size wa u) => Mw.whole_any u bf bh B i D fr ss (by have := (hP.keep hu).pf.cell 0; simpa using this) (by have := (hP.keep hu).ph.cell 0; simpa using this) (hP.keep hu).map hP.tie (by unfold WI.Fit; omega))
  have HP := Lib.hid hP
  have HMk := Lib.hid hMk
  have HQ := Lib.hid hQ'
  clear hP hMk hQ hQ' hcz hll hlen
  go_wp2_with fail
  go_quiet (fail)
  go_upto_if 71 with fail
  rename_i hK
  have HKR := Lib.hid hK
  have HD := Lib.hid (below_drewN (Below.refl wa.heap.size wa) nq)
  clear hK hcx hcf hbh
  generalize wa.drewN nq = wd at *
  refine wp_cond_split rfl (fun ht => ?_) (fun hf => ?_)
  · have hS0 : wd.drew.cell? ⟨gz, oz + i, none⟩ = some (.int .i64 x) := (HD.out.drew.cell (World.block_lt_of_cell? wa _ HCX.out)).trans HCX.out
    clear ht
    refine wp_region_held_drew (S := fun w' => w'.cell? ⟨gz, oz + i, none⟩ = some (.int .i64 x)) (by kernel_rfl) hS0 (fun _ => ?_)
    have HD2 := Lib.hid HD.out.drew
    generalize wd.drew = u at *
    have hS := Lib.hid hS0
    clear hS0
    refine wpAnyH_take (i := 0) (v := .func (.func 6) #[] #[.pointer (some ⟨bf, 0, none⟩), .pointer (some ⟨bh, 0, none⟩)]) rfl (by kernel_rfl) (by kernel_rfl) (by kernel_rfl) (fun _ _ _ h => h) (Or.inl ⟨by kernel_rfl, fun w h => by go_simp⟩) hS.out ?_
    refine wpAnyH_take (i := 2) (v := .slice (some ⟨gz, oz, none⟩) len0 cap0) rfl (by kernel_rfl) (by kernel_rfl) (by kernel_rfl) (fun _ _ _ h => h) (Or.inl ⟨by kernel_rfl, fun w h => by go_simp⟩) hS.out ?_
    refine wpAnyH_take (i := 3) (v := .int .i64 (i : Int)) rfl (by kernel_rfl) (by kernel_rfl) (by kernel_rfl) (fun _ _ _ h => h) (Or.inl ⟨by kernel_rfl, fun w h => by go_simp⟩) hS.out ?_
    refine wpAnyH_take (i := 4) (v := .pointer (some ⟨gz, oz + i, none⟩)) rfl (by kernel_rfl) (by kernel_rfl) (by kernel_rfl) (fun _ _ _ h => h) (Or.inl ⟨by kernel_rfl, fun w h => by go_simp⟩) hS.out ?_
    refine wpAnyH_take (i := 5) (v := .int .i64 x) rfl (by kernel_rfl) (by kernel_rfl) (by kernel_rfl) (fun _ _ _ h => h) (Or.inl ⟨by kernel_rfl, fun w h => by go_simp⟩) hS.out ?_
    refine wpAnyH_take (i := 6) (v := .int .i64 (x / 8)) rfl (by kernel_rfl) (by kernel_rfl) (by kernel_rfl) (fun _ _ _ h => h) (Or.inl ⟨by kernel_rfl, fun w h => by go_simp⟩) hS.out ?_
    refine wpAnyH_take (i := 7) (v := .int .i64 (x / 8 % 4)) rfl (by kernel_rfl) (by kernel_rfl) (by kernel_rfl) (fun _ _ _ h => h) (Or.inl ⟨by kernel_rfl, fun w h => by go_simp⟩) hS.out ?_
    refine wpAnyH_ready (rs := [1]) (by kernel_rfl) (by simp) ?_
    refine AllReadyH.cons rfl (fun K hK => ?_) AllReadyH.nil
    go_simp
    refine (HWH.out _ HD2.out).mono ?_
    rintro e u' ⟨rfl, hw⟩
    have hw := hw.symm
    subst hw
    go_simp
    refine hK.out _ _ hS.out (fun _ => ?_)
    clear hK K
    refine wpAnyH_take (i := 8) (v := .int .i64 (((fr + Wd.lead ss : Nat) : Int) + x / 8 % 4)) rfl (by kernel_rfl) (by kernel_rfl) (by kernel_rfl) (fun _ _ _ h => h) (Or.inl ⟨by kernel_rfl, fun w h => by go_simp; exact IntWalk.i64_in _ (by have := HFL.out; omega)⟩) hS.out ?_
    refine wpAnyH_take (i := 9) (v := .int .i64 (((fr + Wd.lead ss : Nat) : Int) + x / 8 % 4)) rfl (by kernel_rfl) (by kernel_rfl) (by kernel_rfl) (fun _ _ _ h => h) (Or.inl ⟨by kernel_rfl, fun w h => by go_simp⟩) hS.out ?_
    refine wpAnyH_done (by kernel_rfl) ?_ _
    refine HKR.out _ _ ?_
    go_frame
    exact r14T _ rfl HA.out (HP.out.keep HD2.out) (HMk.out.below HD2.out) (by have := HFL.out; omega) HQ.out
  · refine wp_skip ?_
    refine HKR.out _ _ ?_
    exact r14T _ rfl HA.out (HP.out.keep HD.out) (HMk.out.below HD.out) (by have := HFL.out; omega) HQ.out
end Py
end Go.Proofs.Yteafbljdlcbckaa
