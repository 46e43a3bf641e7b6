/- WindPlays: things are cut, and let go of by the map. -/
import Derived.Test.YteafbljdlcbckaaPlaysA
import Derived.Test.YteafbljdlcbckaaRangeKit
import Derived.Deep.DeepCutAuto
import Derived.Maps.RangeWalk
namespace Go.Proofs.Yteafbljdlcbckaa
open Go.RowKit Go.Maps
set_option linter.unusedVariables false
namespace Py
theorem sI_I (o : Obj) (h : WI.isWin o = true) : Pl.sI o = false := by
  cases o <;> simp [WI.isWin] at h <;> first | rfl | (rcases h with h | h <;> subst h <;> rfl)
theorem sI_Y (o : Obj) (h : WY.isWin o = true) : Pl.sI o = false := by
  cases o <;> simp [WY.isWin] at h <;> first | rfl | (rcases h with h | h <;> subst h <;> rfl)
theorem marks_kept' {base base' : Nat} {Ds : List Nat} {S : Obj → Bool} {w w' : World} (h : Mk.Marks base Ds w) (k : Pl.Kept base' S w w') (hs : S (.deferred (some [])) = false) : Mk.Marks base Ds w' :=
  h.kept fun j hj => k.block j _ hj (.inr hs)
section
variable {base r B n : Nat} {S : Obj → Bool} {u w w' : World}
theorem own_kept {D : DataW Unit} (h : Pl.Kept base S w w') (hs : ∀ es c, S (.map es c) = false) (hown : Mw.own w B n D) : Mw.own w' B n D := by
  obtain ⟨es, clock, hb, r⟩ := hown
  exact ⟨es, clock, h.block _ _ hb (.inr (hs _ _)), r⟩
theorem kept_iter (h : Pl.Kept base S u w) (hg : w.grownBy w' (some r)) (hr : u.heap.size ≤ r) : Pl.Kept base S u w' :=
  ⟨hg.os.trans h.os, hg.tape.trans h.tape, hg.output.trans h.output, Nat.le_trans h.size hg.size, fun k o ho hk => by
    have h1 := h.block k o ho hk
    have hk0 : k < u.heap.size := (Array.getElem?_eq_some_iff.1 ho).1
    exact (hg.block k (Array.getElem?_eq_some_iff.1 h1).1 (by intro e; injection e with e; omega)).trans h1⟩
theorem kept_none (h : Pl.Kept base S u w) (hg : w.grownBy w' none) : Pl.Kept base S u w' :=
  ⟨hg.os.trans h.os, hg.tape.trans h.tape, hg.output.trans h.output, Nat.le_trans h.size hg.size, fun k o ho hk => by
    have h1 := h.block k o ho hk
    exact (hg.block k (Array.getElem?_eq_some_iff.1 h1).1 (by simp)).trans h1⟩
theorem kept_map {D : DataW Unit} (h : Pl.Kept base Pl.sM u w) (hown : Mw.own u B n D) (hB : base ≤ B) (hg : w.grownBy w' (some B)) : Pl.Kept base Pl.sM u w' :=
  ⟨hg.os.trans h.os, hg.tape.trans h.tape, hg.output.trans h.output, Nat.le_trans h.size hg.size, fun k o ho hk => by
    have h1 := h.block k o ho hk
    refine (hg.block k (Array.getElem?_eq_some_iff.1 h1).1 ?_).trans h1
    intro e
    injection e with e
    subst e
    obtain ⟨es, clock, hb, _⟩ := hown
    rw [hb] at ho
    injection ho with ho
    subst ho
    rcases hk with hk | hk
    · omega
    · simp [Pl.sM] at hk⟩
end
/-- what the map says while it is swept: what lies beyond c, or is still to come -/
structure Swept (D D' : DataW Unit) (c : Int) (left : Lit → Bool) : Prop where
  has : ∀ y : Int, (Lit.int .i64 y).wf = true → Maps.has D' (.int .i64 y) = (Maps.has D (.int .i64 y) && (decide (c < y) || left (.int .i64 y)))
  val : ∀ (y : Int) z, c < y → D'.atKey (.int .i64 y) z = D.atKey (.int .i64 y) z
theorem Swept.start (D : DataW Unit) (c : Int) : Swept D D c (Maps.has D) := ⟨fun y _ => by cases Maps.has D (.int .i64 y) <;> simp, fun y z _ => rfl⟩
theorem Swept.stays {D D' : DataW Unit} {c x : Int} {left : Lit → Bool} (h : Swept D D' c left) (hx : c < x) : Swept D D' c (fun z => left z && !z.sameKey (.int .i64 x)) := by
  refine ⟨fun y hy => ?_, h.val⟩
  rw [h.has y hy]
  by_cases e : y = x
  · subst e
    have : decide (c < y) = true := by simpa using hx
    rw [this]; simp
  · have hsk : (Lit.int .i64 y).sameKey (.int .i64 x) = false := Maps.sameKey_ne (by intro h0; injection h0 with _ h0; exact e h0)
    rw [hsk]; simp
theorem Swept.goes {D D' : DataW Unit} {c x : Int} {left : Lit → Bool} (h : Swept D D' c left) (hx : x ≤ c) : Swept D (D'.del (.int .i64 x)) c (fun z => left z && !z.sameKey (.int .i64 x)) := by
  refine ⟨fun y hy => ?_, fun y z hyz => ?_⟩
  · by_cases e : y = x
    · subst e
      have h1 : decide (c < y) = false := by simp; omega
      have h2 : (Lit.int .i64 y).sameKey (.int .i64 y) = true := by simp [Lit.sameKey]
      rw [h1, h2, Maps.has_del_same]; simp
    · have hne : (Lit.int .i64 y) ≠ .int .i64 x := by intro h0; injection h0 with _ h0; exact e h0
      rw [Maps.sameKey_ne hne, Maps.has_del_other hne, h.has y hy]; simp
  · have hne : (Lit.int .i64 y) ≠ .int .i64 x := by intro h0; injection h0 with _ h0; omega
    rw [Maps.atKey_del_other hne]; exact h.val y z hyz
set_option maxRecDepth 100000 in
set_option maxHeartbeats 4000000 in
theorem r15 {Q : Exit → Act → World → Prop} (U : Nat → Value) (Ds : List Nat) {f leave k : Int} {a0 : Option Addr} {len0 cap0 : Nat} {w wa : World} {p q bf bl br bh B i fr : Nat} {ss : List (Option Int)} {tt : List (Option WY.V)} {D : DataW Unit}
    (hP : Pl.PlayS w wa p q bf bl br bh B leave i fr ss tt D) (hMk : Mk.Marks w.heap.size Ds wa) (hi60 : i < 60) (hk : -20 ≤ k ∧ k ≤ 80000)
    (hQ : ∀ (T : Array Value) (wx : World) (fr' : Nat) (ss' : List (Option Int)) (tt' : List (Option WY.V)) (D' : DataW Unit), Pl.PlayS w wx p q bf bl br bh B leave (i + 1) fr' ss' tt' D' → Mk.Marks w.heap.size Ds wx → T = #[.int .i64 f, .slice a0 len0 cap0, .int .i64 leave, .pointer (some ⟨bf, 0, none⟩), T.toList.getD 4 undef, .pointer (some ⟨bl, 0, none⟩), .pointer (some ⟨br, 0, none⟩), .pointer (some ⟨p, 0, none⟩), .pointer (some ⟨q, 0, none⟩), .pointer (some ⟨bh, 0, none⟩), .func (.func 6) #[] #[.pointer (some ⟨bf, 0, none⟩), .pointer (some ⟨bh, 0, none⟩)], .int .i64 (i : Int), .int .i64 k, T.toList.getD 13 undef, T.toList.getD 14 undef, T.toList.getD 15 undef, T.toList.getD 16 undef, T.toList.getD 17 undef, T.toList.getD 18 undef, T.toList.getD 19 undef, T.toList.getD 20 undef, T.toList.getD 21 undef, T.toList.getD 22 undef, T.toList.getD 23 undef, T.toList.getD 24 undef, T.toList.getD 25 undef, T.toList.getD 26 undef, T.toList.getD 27 undef, T.toList.getD 28 undef, T.toList.getD 29 undef, T.toList.getD 30 undef, T.toList.getD 31 undef, T.toList.getD 32 undef, T.toList.getD 33 undef, T.toList.getD 34 undef, T.toList.getD 35 undef, T.toList.getD 36 undef, T.toList.getD 37 undef, T.toList.getD 38 undef, T.toList.getD 39 undef, T.toList.getD 40 undef, T.toList.getD 41 undef, T.toList.getD 42 undef, T.toList.getD 43 undef, T.toList.getD 44 undef, T.toList.getD 45 undef, T.toList.getD 46 undef, T.toList.getD 47 undef, T.toList.getD 48 undef, T.toList.getD 49 undef, T.toList.getD 50 undef, T.toList.getD 51 undef, T.toList.getD 52 undef, T.toList.getD 53 undef, T.toList.getD 54 undef, T.toList.getD 55 undef, T.toList.getD 56 undef, T.toList.getD 57 undef, T.toList.getD 58 undef, T.toList.getD 59 undef, T.toList.getD 60 undef, T.toList.getD 61 undef, T.toList.getD 62 undef, T.toList.getD 63 undef, T.toList.getD 64 undef, T.toList.getD 65 undef, T.toList.getD 66 undef, T.toList.getD 67 undef, T.toList.getD 68 undef, T.toList.getD 69 undef, T.toList.getD 70 undef, T.toList.getD 71 undef, T.toList.getD 72 undef, T.toList.getD 73 undef, T.toList.getD 74 undef, T.toList.getD 75 undef, T.toList.getD 76 undef, T.toList.getD 77 undef, T.toList.getD 78 undef, T.toList.getD 79 undef, T.toList.getD 80 undef, T.toList.getD 81 undef, T.toList.getD 82 undef, T.toList.getD 83 undef, T.toList.getD 84 undef, T.toList.getD 85 undef, T.toList.getD 86 undef, T.toList.getD 87 undef, T.toList.getD 88 undef, T.toList.getD 89 undef, T.toList.getD 90 undef, T.toList.getD 91 undef, T.toList.getD 92 undef, T.toList.getD 93 undef, T.toList.getD 94 undef, T.toList.getD 95 undef, T.toList.getD 96 undef, T.toList.getD 97 undef, T.toList.getD 98 undef, T.toList.getD 99 undef, T.toList.getD 100 undef, T.toList.getD 101 undef, T.toList.getD 102 undef, T.toList.getD 103 undef, T.toList.getD 104 undef, T.toList.getD 105 undef, T.toList.getD 106 undef, T.toList.getD 107 undef, T.toList.getD 108 undef, T.toList.getD 109 undef, T.toList.getD 110 undef, T.toList.getD 111 undef, T.toList.getD 112 undef, T.toList.getD 113 undef, T.toList.getD 114 undef, T.toList.getD 115 undef, T.toList.getD 116 undef, T.toList.getD 117 undef, T.toList.getD 118 undef, T.toList.getD 119 undef, T.toList.getD 120 undef, T.toList.getD 121 undef, T.toList.getD 122 undef, T.toList.getD 123 undef, T.toList.getD 124 undef, T.toList.getD 125 undef, T.toList.getD 126 undef, T.toList.getD 127 undef, T.toList.getD 128 undef, T.toList.getD 129 undef, T.toList.getD 130 undef, T.toList.getD 131 undef, T.toList.getD 132 undef, T.toList.getD 133 undef, T.toList.getD 134 undef, T.toList.getD 135 undef, T.toList.getD 136 undef, T.toList.getD 137 undef, T.toList.getD 138 undef, T.toList.getD 139 undef, T.toList.getD 140 undef, T.toList.getD 141 undef, T.toList.getD 142 undef, T.toList.getD 143 undef, T.toList.getD 144 undef, T.toList.getD 145 undef, T.toList.getD 146 undef, T.toList.getD 147 undef, T.toList.getD 148 undef, T.toList.getD 149 undef, T.toList.getD 150 undef, T.toList.getD 151 undef, T.toList.getD 152 undef, T.toList.getD 153 undef, T.toList.getD 154 undef, T.toList.getD 155 undef, T.toList.getD 156 undef, T.toList.getD 157 undef, T.toList.getD 158 undef, T.toList.getD 159 undef, T.toList.getD 160 undef, T.toList.getD 161 undef, T.toList.getD 162 undef, T.toList.getD 163 undef, T.toList.getD 164 undef, T.toList.getD 165 undef, T.toList.getD 166 undef, T.toList.getD 167 undef, T.toList.getD 168 undef, T.toList.getD 169 undef, T.toList.getD 170 undef, T.toList.getD 171 undef, T.toList.getD 172 undef, T.toList.getD 173 undef, T.toList.getD 174 undef, T.toList.getD 175 undef, T.toList.getD 176 undef, T.toList.getD 177 undef, T.toList.getD 178 undef, T.toList.getD 179 undef, T.toList.getD 180 undef, T.toList.getD 181 undef, T.toList.getD 182 undef, T.toList.getD 183 undef, T.toList.getD 184 undef, T.toList.getD 185 undef, T.toList.getD 186 undef, T.toList.getD 187 undef, T.toList.getD 188 undef, T.toList.getD 189 undef, T.toList.getD 190 undef, T.toList.getD 191 undef, T.toList.getD 192 undef, T.toList.getD 193 undef, T.toList.getD 194 undef, T.toList.getD 195 undef, T.toList.getD 196 undef, T.toList.getD 197 undef, T.toList.getD 198 undef, T.toList.getD 199 undef, T.toList.getD 200 undef, T.toList.getD 201 undef, T.toList.getD 202 undef, T.toList.getD 203 undef, T.toList.getD 204 undef, T.toList.getD 205 undef, T.toList.getD 206 undef, T.toList.getD 207 undef, T.toList.getD 208 undef, T.toList.getD 209 undef, T.toList.getD 210 undef, T.toList.getD 211 undef, T.toList.getD 212 undef, T.toList.getD 213 undef, T.toList.getD 214 undef, T.toList.getD 215 undef, T.toList.getD 216 undef, T.toList.getD 217 undef, T.toList.getD 218 undef, T.toList.getD 219 undef, T.toList.getD 220 undef, T.toList.getD 221 undef, T.toList.getD 222 undef, T.toList.getD 223 undef, T.toList.getD 224 undef, T.toList.getD 225 undef, T.toList.getD 226 undef, T.toList.getD 227 undef, T.toList.getD 228 undef, T.toList.getD 229 undef, T.toList.getD 230 undef, T.toList.getD 231 undef, T.toList.getD 232 undef, T.toList.getD 233 undef, T.toList.getD 234 undef, T.toList.getD 235 undef, T.toList.getD 236 undef, T.toList.getD 237 undef, T.toList.getD 238 undef, T.toList.getD 239 undef, T.toList.getD 240 undef, T.toList.getD 241 undef, T.toList.getD 242 undef, T.toList.getD 243 undef, T.toList.getD 244 undef, T.toList.getD 245 undef, T.toList.getD 246 undef, T.toList.getD 247 undef, T.toList.getD 248 undef, T.toList.getD 249 undef, T.toList.getD 250 undef, T.toList.getD 251 undef, T.toList.getD 252 undef, T.toList.getD 253 undef, T.toList.getD 254 undef, T.toList.getD 255 undef, T.toList.getD 256 undef, T.toList.getD 257 undef, T.toList.getD 258 undef, T.toList.getD 259 undef, T.toList.getD 260 undef, T.toList.getD 261 undef, T.toList.getD 262 undef, T.toList.getD 263 undef, T.toList.getD 264 undef, T.toList.getD 265 undef, T.toList.getD 266 undef, T.toList.getD 267 undef, T.toList.getD 268 undef, T.toList.getD 269 undef, T.toList.getD 270 undef, T.toList.getD 271 undef, T.toList.getD 272 undef, T.toList.getD 273 undef, T.toList.getD 274 undef, T.toList.getD 275 undef, T.toList.getD 276 undef, T.toList.getD 277 undef, T.toList.getD 278 undef, T.toList.getD 279 undef, T.toList.getD 280 undef, T.toList.getD 281 undef, T.toList.getD 282 undef, T.toList.getD 283 undef, T.toList.getD 284 undef, T.toList.getD 285 undef, T.toList.getD 286 undef, T.toList.getD 287 undef, T.toList.getD 288 undef, T.toList.getD 289 undef, T.toList.getD 290 undef, T.toList.getD 291 undef, T.toList.getD 292 undef, T.toList.getD 293 undef, T.toList.getD 294 undef, T.toList.getD 295 undef, T.toList.getD 296 undef, T.toList.getD 297 undef, T.toList.getD 298 undef, T.toList.getD 299 undef, T.toList.getD 300 undef, T.toList.getD 301 undef, T.toList.getD 302 undef, T.toList.getD 303 undef, T.toList.getD 304 undef, T.toList.getD 305 undef, T.toList.getD 306 undef, T.toList.getD 307 undef, T.toList.getD 308 undef, T.toList.getD 309 undef, T.toList.getD 310 undef, T.toList.getD 311 undef, T.toList.getD 312 undef] → Q .normal { tmps := T, defers := Ds.map Mk.mark } wx) :
    Code.wp Try.prog (rest 15) Q { tmps := #[.int .i64 f, .slice a0 len0 cap0, .int .i64 leave, .pointer (some ⟨bf, 0, none⟩), U 4, .pointer (some ⟨bl, 0, none⟩), .pointer (some ⟨br, 0, none⟩), .pointer (some ⟨p, 0, none⟩), .pointer (some ⟨q, 0, none⟩), .pointer (some ⟨bh, 0, none⟩), .func (.func 6) #[] #[.pointer (some ⟨bf, 0, none⟩), .pointer (some ⟨bh, 0, none⟩)], .int .i64 (i : Int), .int .i64 k, U 13, U 14, U 15, U 16, U 17, U 18, U 19, U 20, U 21, U 22, U 23, U 24, U 25, U 26, U 27, U 28, U 29, U 30, U 31, U 32, U 33, U 34, U 35, U 36, U 37, U 38, U 39, U 40, U 41, U 42, U 43, U 44, U 45, U 46, U 47, U 48, U 49, U 50, U 51, U 52, U 53, U 54, U 55, U 56, U 57, U 58, U 59, U 60, U 61, U 62, U 63, U 64, U 65, U 66, U 67, U 68, U 69, U 70, U 71, U 72, U 73, U 74, U 75, U 76, U 77, U 78, U 79, U 80, U 81, U 82, U 83, U 84, U 85, U 86, U 87, U 88, U 89, U 90, U 91, U 92, U 93, U 94, U 95, U 96, U 97, U 98, U 99, U 100, U 101, U 102, U 103, U 104, U 105, U 106, U 107, U 108, U 109, U 110, U 111, U 112, U 113, U 114, U 115, U 116, U 117, U 118, U 119, U 120, U 121, U 122, U 123, U 124, U 125, U 126, U 127, U 128, U 129, U 130, U 131, U 132, U 133, U 134, U 135, U 136, U 137, U 138, U 139, U 140, U 141, U 142, U 143, U 144, U 145, U 146, U 147, U 148, U 149, U 150, U 151, U 152, U 153, U 154, U 155, U 156, U 157, U 158, U 159, U 160, U 161, U 162, U 163, U 164, U 165, U 166, U 167, U 168, U 169, U 170, U 171, U 172, U 173, U 174, U 175, U 176, U 177, U 178, U 179, U 180, U 181, U 182, U 183, U 184, U 185, U 186, U 187, U 188, U 189, U 190, U 191, U 192, U 193, U 194, U 195, U 196, U 197, U 198, U 199, U 200, U 201, U 202, U 203, U 204, U 205, U 206, U 207, U 208, U 209, U 210, U 211, U 212, U 213, U 214, U 215, U 216, U 217, U 218, U 219, U 220, U 221, U 222, U 223, U 224, U 225, U 226, U 227, U 228, U 229, U 230, U 231, U 232, U 233, U 234, U 235, U 236, U 237, U 238, U 239, U 240, U 241, U 242, U 243, U 244, U 245, U 246, U 247, U 248, U 249, U 250, U 251, U 252, U 253, U 254, U 255, U 256, U 257, U 258, U 259, U 260, U 261, U 262, U 263, U 264, U 265, U 266, U 267, U 268, U 269, U 270, U 271, U 272, U 273, U 274, U 275, U 276, U 277, U 278, U 279, U 280, U 281, U 282, U 283, U 284, U 285, U 286, U 287, U 288, U 289, U 290, U 291, U 292, U 293, U 294, U 295, U 296, U 297, U 298, U 299, U 300, U 301, U 302, U 303, U 304, U 305, U 306, U 307, U 308, U 309, U 310, U 311, U 312], defers := Ds.map Mk.mark } wa := by
  conv => arg 2; whnf
  have hlen := hP.len
  have hll := Wd.lead_le ss
  have hfr : fr + ss.length ≤ 70000 := by omega
  have hfl : fr + Wd.lead ss ≤ 70000 := by omega
  have HFS := Lib.hid (show WI.Fit (fr + ss.length) by unfold WI.Fit; omega)
  have hbf := hP.pf.cell 0
  have hbh := hP.ph.cell 0
  simp at hbf hbh
  have hmap := hP.map
  have HP := Lib.hid hP
  have HMk := Lib.hid hMk
  have HQ := Lib.hid hQ
  clear hP hMk hQ hlen hll
  by_cases h1 : (fr : Int) < k
  · by_cases h2 : k ≤ ((fr + Wd.lead ss : Nat) : Int)
    · obtain ⟨j, hj⟩ : ∃ j : Nat, k = ((fr + j : Nat) : Int) := ⟨(k - fr).toNat, by omega⟩
      have HJ := Lib.hid (show (j ≤ Wd.lead ss ∧ 0 < j) ∧ k = ((fr + j : Nat) : Int) by omega)
      clear hj
      go_wp2_with fail
      refine (WI.cut_is HP.out.win rfl _ j (fr + j) (ss.drop j) (by have := HJ.out; omega) HJ.out.1.1 HJ.out.1.2 rfl rfl).mono ?_
      rintro e u1 ⟨rfl, hw1, t1⟩
      have HW1 := Lib.hid hw1
      have HY1 := Lib.hid (HP.out.wiy.turnsI t1)
      have HK1 : Hid (Pl.Kept w.heap.size Pl.sW wa u1) := Lib.hid (Pl.Kept.of_turnsI t1)
      clear hw1 t1 hbf hbh hmap
      go_wp2_with fail
      refine (WY.cut_is HY1.out (by rw [HP.out.two.lead]) _ j (fr + j) (tt.drop j) (by have := HJ.out; omega) (by rw [HP.out.two.lead]; exact HJ.out.1.1) HJ.out.1.2 rfl rfl).mono ?_
      rintro e u2 ⟨rfl, hw2, t2⟩
      have HW2 := Lib.hid (HW1.out.turnsY t2)
      have HY2 := Lib.hid hw2
      have K2 : Pl.Kept w.heap.size Pl.sW wa u2 := HK1.out.trans (Pl.Kept.of_turnsY t2)
      have HK2 := Lib.hid K2
      have hpf2 := K2.blk HP.out.pf rfl
      have HPF2 := Lib.hid hpf2
      have hbf2 := hpf2.cell 0
      have hbff := hpf2.frozen 0
      have hbh2 := (K2.blk HP.out.ph rfl).cell 0
      simp at hbf2 hbh2
      have hmap2 := K2.own HP.out.map
      have hbh3 := fun (v : Value) => (blk_set_other (i := 0) (K2.blk HP.out.ph rfl) (fun e => Blk.apart (K2.blk HP.out.ph rfl) hpf2 (by decide) e) v).cell 0
      simp at hbh3
      have K3 : Pl.Kept w.heap.size Pl.sI u2 (u2.setCell ⟨bf, 0, none⟩ (.int .i64 k)) := Pl.Kept.of_set hpf2 HP.out.apart.2.1
      have HK3 := Lib.hid K3
      have hmap3 := own_kept K3 (fun _ _ => rfl) hmap2
      have hsz : (u2.setCell ⟨bf, 0, none⟩ (.int .i64 k)).heap.size = u2.heap.size := by simp [World.setCell]
      have hPF3 : Blk (u2.setCell ⟨bf, 0, none⟩ (.int .i64 k)) bf 3 #[.int .i64 k] := hpf2.set_ 0 _
      have hPL3 : Blk (u2.setCell ⟨bf, 0, none⟩ (.int .i64 k)) bl 3 #[.int .i64 leave] := blk_set_other (K2.blk HP.out.pl rfl) (fun e => HP.out.apart.1 e.symm) _
      have HPF3 := Lib.hid hPF3
      have HPL3 := Lib.hid hPL3
      have HPH3 := Lib.hid (K3.blk (K2.blk HP.out.ph rfl) rfl)
      have HM3 := Lib.hid hmap3
      clear hw2 t2 K2 hpf2 K3 hPF3 hPL3
      go_upto_block 3 with (first
        | (go_at_call 6; refine (Mw.whole_any u2 bf bh B i D fr ss hbf2 hbh2 hmap2 HP.out.tie HFS.out).mono ?_; rintro e w' ⟨rfl, hw⟩; have hw := hw.symm; subst hw)
        | (at_range; refine wpList_range_own _ rfl _ 28 rfl 3 3 Mw.law Try.underlying28 _ B i D rfl hmap3 ?_; intro w0 hrg0 hg0 hs0; rw [hsz] at hrg0 ⊢; go_frame)
        | fail)
      have HG := Lib.hid hrg0
      have HK0 := Lib.hid (kept_none (Pl.Kept.refl w.heap.size Pl.sM (u2.setCell ⟨bf, 0, none⟩ (.int .i64 k))) hg0)
      have HSZ := Lib.hid (Nat.le_of_eq hsz)
      generalize u2.setCell ⟨bf, 0, none⟩ (.int .i64 k) = u3 at *
      clear hrg0 hg0 hs0 hsz hmap3 hmap2 hbf2 hbff hbh2 hbh3
      go_wp2_with fail
      have hd : decide (k ≤ (fr : Int) + (Wd.lead ss : Int)) = true := by have := HJ.out; simp; omega
      simp only [hd]
      go_loopw [16] (fun _ wy => ∃ (D' : DataW Unit) (left : Lit → Bool) (cnt : Nat), wy.ranges Try.prog 3 (plainElem Try.prog 3) B u2.heap.size i D' left cnt ∧ Hid (Swept D D' k left) ∧ Hid (Pl.Kept w.heap.size Pl.sM u3 wy))
        (fun _ wy => wy.rangeLeft B u2.heap.size)
      case atStart => exact ⟨D, _, _, HG.out, Lib.hid (Swept.start D k), HK0⟩
      case round =>
        obtain ⟨D', left, cnt, hrg, HS, HK⟩ := hrel
        have hm0 := hrg.left_eq
        go_wp2_with (first
          | (at_next; refine wpList_next_ranges_ii _ rfl _ rfl 3 3 .i64 .i64 Mw.law Try.underlying3 Try.underlying3 B u2.heap.size i _ _ _ rfl hrg ?_ ?_)
          | fail)
        · intro hc0 hl0
          have HO := Lib.hid hrg.owns
          have HL0 := Lib.hid hl0
          clear hrg hm0 hl0
          go_wp2_with fail
          have KF : Pl.Kept w.heap.size Pl.sF wa wr := ((HK2.out.weak (T := Pl.sF) (fun o h => by unfold Pl.sF Pl.sA; simp [h])).trans (HK3.out.weak (T := Pl.sF) (fun o h => by unfold Pl.sF; simp [h]))).trans (HK.out.weak (T := Pl.sF) (fun o h => by unfold Pl.sF Pl.sA; simp [h]))
          refine HQ.out _ wr (fr + j) _ _ D' (HP.out.cut j HJ.out.1.1 KF (HK.out.winI Pl.sM_I (HK3.out.winI sI_I HW2.out)) (HK.out.winY Pl.sM_Y (HK3.out.winY sI_Y HY2.out)) HO.out (fun y hy => ?_) (fun y z hy => ?_) ?_ (HK.out.blk HPL3.out rfl)) (marks_kept' HMk.out KF rfl) rfl
          · rw [HS.out.has y hy, HL0.out, HJ.out.2]; simp
          · exact HS.out.val y z (by rw [HJ.out.2]; exact hy)
          · rw [← HJ.out.2]; exact HK.out.blk HPF3.out rfl
        · intro x c w1 cnt1 hwx hwc hlx hat hrg1 hlt hg1 hs1 hen
          have HK1' := Lib.hid (kept_iter HK.out hg1 HSZ.out)
          have hbf1 := (HK1'.out.blk HPF3.out rfl).cell 0
          have hbh1 := (HK1'.out.blk HPH3.out rfl).cell 0
          simp at hbf1 hbh1
          clear hrg hat hlx hg1 hs1 hwc
          by_cases hx : x ≤ k
          · go_wp2_with (first
              | (at_delete; refine wpList_delete_ranges _ rfl _ _ 28 3 rfl 3 Mw.law Try.underlying28 _ B u2.heap.size i _ _ _ rfl hrg1 _ _ rfl (keyOf_int_mk Try.underlying3 hwx) ?_; intro w2 cnt2 hrg2 hle hturn; go_frame)
              | fail)
            rw [strike_twice] at hrg2
            go_roundw
            case rel => exact ⟨_, _, cnt2, hrg2, Lib.hid (HS.out.goes hx), Lib.hid (kept_map HK1'.out HM3.out HP.out.apart.2.2.1 hturn.grown)⟩
            case measure => rw [hrg2.left_eq]; first | omega | (rw [hm0]; omega)
          · go_wp2_with fail
            go_roundw
            case rel => exact ⟨_, _, cnt1, hrg1, Lib.hid (HS.out.stays (by omega)), HK1'⟩
            case measure => rw [hrg1.left_eq]; first | exact hlt | (rw [hm0]; exact hlt)
    · have HH := Lib.hid (show ((fr + Wd.lead ss : Nat) : Int) < k by omega)
      go_wp2_with fail
      refine (WI.cut_no _ _ _ _ _ _ HP.out.win k (.inr HH.out)).mono ?_
      rintro e u1 ⟨rfl, hw⟩
      subst hw
      go_wp2_with fail
      refine (WY.cut_no _ _ _ _ _ _ HP.out.wiy k (.inr (by have := HH.out; omega))).mono ?_
      rintro e u2 ⟨rfl, hw⟩
      subst hw
      go_wp2_with (first
        | (go_at_call 6; refine (Mw.whole_any wa bf bh B i D fr ss hbf hbh hmap HP.out.tie HFS.out).mono ?_; rintro e w' ⟨rfl, hw⟩; have hw := hw.symm; subst hw)
        | fail)
      exact HQ.out _ _ _ _ _ _ HP.out.next HMk.out rfl
  · have HH := Lib.hid (show k ≤ (fr : Int) by omega)
    go_wp2_with fail
    refine (WI.cut_no _ _ _ _ _ _ HP.out.win k (.inl HH.out)).mono ?_
    rintro e u1 ⟨rfl, hw⟩
    subst hw
    go_wp2_with fail
    refine (WY.cut_no _ _ _ _ _ _ HP.out.wiy k (.inl HH.out)).mono ?_
    rintro e u2 ⟨rfl, hw⟩
    subst hw
    go_wp2_with (first
      | (go_at_call 6; refine (Mw.whole_any wa bf bh B i D fr ss hbf hbh hmap HP.out.tie HFS.out).mono ?_; rintro e w' ⟨rfl, hw⟩; have hw := hw.symm; subst hw)
      | fail)
    exact HQ.out _ _ _ _ _ _ HP.out.next HMk.out rfl
end Py
end Go.Proofs.Yteafbljdlcbckaa
