/- WindPlays: the keys that there are, and the numbers that are missing, by the map. -/
import Derived.Test.YteafbljdlcbckaaPlaysA
import Derived.Deep.DeepCutAuto
import Derived.Deep.CutBlock
namespace Go.Proofs.Yteafbljdlcbckaa
open Go.RowKit Go.Maps
set_option linter.unusedVariables false
namespace Py
theorem intCp : CellT Try.prog 22 3 (.int .i64 0) 8 := ⟨Try.underlying22, by kernel_rfl, rfl⟩
/-- two rows of the call's own, of one type, in two blocks -/
structure Rows2 (base : Nat) (w : World) (u v : Value) (n m : Nat) (xs ys : List Value) : Prop where
  a : w.ownsRow base 3 1 u n xs
  b : w.ownsRow base 3 1 v m ys
  ap : u.ownBlock = none ∨ v.ownBlock = none ∨ u.ownBlock ≠ v.ownBlock
section
variable {base : Nat} {w w2 : World} {u v u' : Value} {n m n' : Nat} {xs ys xs' : List Value}
theorem Rows2.swap (h : Rows2 base w u v n m xs ys) : Rows2 base w v u m n ys xs := ⟨h.b, h.a, by rcases h.ap with h1 | h1 | h1; exact .inr (.inl h1); exact .inl h1; exact .inr (.inr (fun e => h1 e.symm))⟩
theorem Rows2.below (h : Rows2 base w u v n m xs ys) (hb : Below w.heap.size w w2) : Rows2 base w2 u v n m xs ys := ⟨ownsRow_below h.a hb, ownsRow_below h.b hb, h.ap⟩
theorem Rows2.grow (h : Rows2 base w u v n m xs ys) (hu : w2.ownsRow base 3 1 u' n' xs') (hg : w.grownBy w2 u.ownBlock) (hb : u'.ownBlock = u.ownBlock ∨ u'.ownBlock = some w.heap.size) : Rows2 base w2 u' v n' m xs' ys := by
  refine ⟨hu, h.b.kept hg ?_, ?_⟩
  · rcases h.ap with h1 | h1 | h1
    · rw [h1]
      cases hv : v.ownBlock
      · exact .inl rfl
      · exact .inr (by simp)
    · exact .inl h1
    · exact .inr (fun e => h1 e.symm)
  · rcases hb with e | e
    · rw [e]; exact h.ap
    · rw [e]
      cases hv : v.ownBlock with
      | none => exact .inr (.inl rfl)
      | some g =>
        refine .inr (.inr (fun e2 => ?_))
        injection e2 with e2
        have := (h.b.lt g hv).2
        omega
end
/-- append, and which block the row lies in then -/
theorem wpList_append_cells2 {P : Program} {t e : TypeId} {z : Value} {bytes : Nat} {W w : World} (hT : CellT P t e z bytes) {ops : Array Oper} {rest : List Oper} {o : Oper} {a : Act} {Q : Exit → Act → World → Prop} (s x : Operand)
    (ho : o.op = .call { callee := .builtin .append, args := #[s, x], argTypes := #[t, t] }) (hw : Region.wanted o (yielded ops a.tmps) = true)
    {A : Option Addr} {n c : Nat} {vs : List Value} (hs : a.eval s = .slice A n c) (hown : w.ownsRow W.heap.size e 1 (.slice A n c) n vs)
    {B : Nat} {A' : Option Addr} {m c' : Nat} {ws : List Value} (hx : a.eval x = .slice A' m c') (hr : Rd w B A' m ws) (h1 : ∀ u ∈ ws, u.oneCell' = true) (hnm : n + m ≤ 1099511627776) (hby : bytes ≤ 64) (hB : Below W.heap.size W w)
    (h : ∀ A2 c2 w2, w2.ownsRow W.heap.size e 1 (.slice A2 (n + m) c2) (n + m) (vs ++ ws) → Below W.heap.size W w2 → w.grownBy w2 (Value.slice A n c).ownBlock →
      ((Value.slice A2 (n + m) c2).ownBlock = (Value.slice A n c).ownBlock ∨ (Value.slice A2 (n + m) c2).ownBlock = some w.heap.size) → wpList P ops Q rest (a.put o.dst (.slice A2 (n + m) c2)) w2) :
    wpList P ops Q (o :: rest) a w := by
  obtain ⟨i, hi, hz, hsz, hbi⟩ := info_parts hT.info
  obtain ⟨v', w', hrun, h2, h3, h4⟩ := run_append_rd (P := P) w W.heap.size t o.type e i z bytes hT.under hi hz hsz hbi hT.one _ n vs hown B A' m c' ws hr h1
    (by unfold maxLen; omega) (by have := Nat.mul_le_mul hnm hby; omega) hB.size
  have hlt := hown.lt
  have hB2 : Below W.heap.size W w' := hB.grown h3 hB.size (fun k hk => (hlt k hk).1)
  obtain ⟨A2, c2, rfl, hr2⟩ := Rd.of_own h2
  have hgo := h A2 c2 w' h2 hB2 h3 h4
  unfold wpList
  rw [if_pos hw]
  refine Or.inl ?_
  unfold Oper.wp execOp
  simp only [ho, resolve, invoke, builtin, Sem.run_bind, Sem.run_pure, Result.andThen_ok, List.map_toArray, List.map_cons, List.map_nil, hs, hx, hrun]
  exact hgo
/-- the keys up to a place, and the numbers that are missing up to it -/
def kO (fr : Nat) (ss : List (Option Int)) (n : Nat) : List Int := (Wd.pairs ((fr : Int) + 1) (ss.take n)).map Prod.fst
def mO (fr : Nat) (ss : List (Option Int)) (mm n : Nat) : List Int := (Wd.holes ((fr : Int) + 1) (ss.take n)).take mm
theorem kO_some {fr : Nat} {ss : List (Option Int)} {n : Nat} {v : Int} (h : ss[n]? = some (some v)) : kO fr ss (n + 1) = kO fr ss n ++ [(fr : Int) + 1 + (n : Int)] := by
  have hl := (List.getElem?_eq_some_iff.1 h).1
  unfold kO
  rw [List.take_add_one, h, Option.toList, Wd.pairs_append, List.length_take, Nat.min_eq_left (by omega)]
  simp [Wd.pairs]
theorem kO_none {fr : Nat} {ss : List (Option Int)} {n : Nat} (h : ss[n]? = some none) : kO fr ss (n + 1) = kO fr ss n := by
  have hl := (List.getElem?_eq_some_iff.1 h).1
  unfold kO
  rw [List.take_add_one, h, Option.toList, Wd.pairs_append, List.length_take, Nat.min_eq_left (by omega)]
  simp [Wd.pairs]
theorem mO_some {fr : Nat} {ss : List (Option Int)} {mm n : Nat} {v : Int} (h : ss[n]? = some (some v)) : mO fr ss mm (n + 1) = mO fr ss mm n := by
  unfold mO; rw [Wd.holes_take _ _ _ _ h]; simp
theorem mO_more {fr : Nat} {ss : List (Option Int)} {mm n : Nat} (h : ss[n]? = some none) (hl : (mO fr ss mm n).length < mm) : mO fr ss mm (n + 1) = mO fr ss mm n ++ [(fr : Int) + 1 + (n : Int)] := by
  unfold mO at hl ⊢
  rw [List.length_take] at hl
  rw [Wd.holes_take _ _ _ _ h, List.take_append, List.take_of_length_le (l := Wd.holes _ _) (by omega)]
  congr 1
  rw [List.take_of_length_le]
  · rfl
  · simp; omega
theorem mO_full {fr : Nat} {ss : List (Option Int)} {mm n : Nat} (h : ss[n]? = some none) (hl : ¬ (mO fr ss mm n).length < mm) : mO fr ss mm (n + 1) = mO fr ss mm n := by
  unfold mO at hl ⊢
  rw [List.length_take] at hl
  rw [Wd.holes_take _ _ _ _ h, List.take_append_of_le_length (by omega)]
theorem kO_len (fr : Nat) (ss : List (Option Int)) (n : Nat) : (kO fr ss n).length ≤ n := by
  unfold kO; rw [List.length_map]; exact Nat.le_trans (Wd.pairs_length _ _) (by rw [List.length_take]; omega)
theorem mO_len (fr : Nat) (ss : List (Option Int)) (mm n : Nat) : (mO fr ss mm n).length ≤ mm := by unfold mO; rw [List.length_take]; omega
set_option maxRecDepth 100000 in
set_option maxHeartbeats 4000000 in
theorem r5 {Q : Exit → Act → World → Prop} (U : Nat → Value) (Ds : List Nat) {f leave k x : Int} {a0 : Option Addr} {len0 cap0 gz oz : Nat} {w wa : World} {p q bf bl br bh B i fr : Nat} {ss : List (Option Int)} {tt : List (Option WY.V)} {D : DataW Unit} {b : Bool} {xv yv zv : Value}
    (hA : Act1 w a0 len0 i x gz oz) (hP : Pl.PlayS w wa p q bf bl br bh B leave (i + 1) fr ss tt D)
    (hnext : ∀ (T : Array Value) (wx : World) (Ak Am : Option Addr) (nk ck nm cm : Nat), Below wa.heap.size wa wx → Rd wx wx.heap.size Ak nk (iv (kO fr ss ss.length)) → nk ≤ ck → nk ≤ 100000 → Rd wx wx.heap.size Am nm (iv (mO fr ss (x / 1024 % 8).toNat ss.length)) → nm ≤ 100000 →
      T = #[.int .i64 f, .slice a0 len0 cap0, .int .i64 leave, .pointer (some ⟨bf, 0, none⟩), T.toList.getD 4 undef, .pointer (some ⟨bl, 0, none⟩), .pointer (some ⟨br, 0, none⟩), .pointer (some ⟨p, 0, none⟩), .pointer (some ⟨q, 0, none⟩), .pointer (some ⟨bh, 0, none⟩), .func (.func 6) #[] #[.pointer (some ⟨bf, 0, none⟩), .pointer (some ⟨bh, 0, none⟩)], .int .i64 (i : Int), .int .i64 k, T.toList.getD 13 undef, T.toList.getD 14 undef, T.toList.getD 15 undef, T.toList.getD 16 undef, xv, .bool b, yv, .bool b, zv, .bool b, .int .i64 ((fr : Int) + (ss.length : Int)), .slice Ak nk ck, .slice Am nm cm, T.toList.getD 26 undef, T.toList.getD 27 undef, T.toList.getD 28 undef, T.toList.getD 29 undef, T.toList.getD 30 undef, T.toList.getD 31 undef, T.toList.getD 32 undef, T.toList.getD 33 undef, T.toList.getD 34 undef, T.toList.getD 35 undef, T.toList.getD 36 undef, T.toList.getD 37 undef, T.toList.getD 38 undef, T.toList.getD 39 undef, T.toList.getD 40 undef, T.toList.getD 41 undef, T.toList.getD 42 undef, T.toList.getD 43 undef, T.toList.getD 44 undef, T.toList.getD 45 undef, T.toList.getD 46 undef, T.toList.getD 47 undef, T.toList.getD 48 undef, T.toList.getD 49 undef, T.toList.getD 50 undef, T.toList.getD 51 undef, T.toList.getD 52 undef, T.toList.getD 53 undef, T.toList.getD 54 undef, T.toList.getD 55 undef, T.toList.getD 56 undef, T.toList.getD 57 undef, T.toList.getD 58 undef, T.toList.getD 59 undef, T.toList.getD 60 undef, T.toList.getD 61 undef, T.toList.getD 62 undef, T.toList.getD 63 undef, T.toList.getD 64 undef, T.toList.getD 65 undef, T.toList.getD 66 undef, T.toList.getD 67 undef, T.toList.getD 68 undef, T.toList.getD 69 undef, T.toList.getD 70 undef, T.toList.getD 71 undef, T.toList.getD 72 undef, T.toList.getD 73 undef, T.toList.getD 74 undef, T.toList.getD 75 undef, T.toList.getD 76 undef, T.toList.getD 77 undef, T.toList.getD 78 undef, T.toList.getD 79 undef, T.toList.getD 80 undef, T.toList.getD 81 undef, T.toList.getD 82 undef, T.toList.getD 83 undef, T.toList.getD 84 undef, T.toList.getD 85 undef, T.toList.getD 86 undef, T.toList.getD 87 undef, T.toList.getD 88 undef, T.toList.getD 89 undef, T.toList.getD 90 undef, T.toList.getD 91 undef, T.toList.getD 92 undef, T.toList.getD 93 undef, T.toList.getD 94 undef, T.toList.getD 95 undef, T.toList.getD 96 undef, T.toList.getD 97 undef, T.toList.getD 98 undef, T.toList.getD 99 undef, T.toList.getD 100 undef, T.toList.getD 101 undef, T.toList.getD 102 undef, T.toList.getD 103 undef, T.toList.getD 104 undef, T.toList.getD 105 undef, T.toList.getD 106 undef, T.toList.getD 107 undef, T.toList.getD 108 undef, T.toList.getD 109 undef, T.toList.getD 110 undef, T.toList.getD 111 undef, T.toList.getD 112 undef, T.toList.getD 113 undef, T.toList.getD 114 undef, T.toList.getD 115 undef, T.toList.getD 116 undef, T.toList.getD 117 undef, T.toList.getD 118 undef, T.toList.getD 119 undef, T.toList.getD 120 undef, T.toList.getD 121 undef, T.toList.getD 122 undef, T.toList.getD 123 undef, T.toList.getD 124 undef, T.toList.getD 125 undef, T.toList.getD 126 undef, T.toList.getD 127 undef, T.toList.getD 128 undef, T.toList.getD 129 undef, T.toList.getD 130 undef, T.toList.getD 131 undef, T.toList.getD 132 undef, T.toList.getD 133 undef, T.toList.getD 134 undef, T.toList.getD 135 undef, T.toList.getD 136 undef, T.toList.getD 137 undef, T.toList.getD 138 undef, T.toList.getD 139 undef, T.toList.getD 140 undef, T.toList.getD 141 undef, T.toList.getD 142 undef, T.toList.getD 143 undef, T.toList.getD 144 undef, T.toList.getD 145 undef, T.toList.getD 146 undef, T.toList.getD 147 undef, T.toList.getD 148 undef, T.toList.getD 149 undef, T.toList.getD 150 undef, T.toList.getD 151 undef, T.toList.getD 152 undef, T.toList.getD 153 undef, T.toList.getD 154 undef, T.toList.getD 155 undef, T.toList.getD 156 undef, T.toList.getD 157 undef, T.toList.getD 158 undef, T.toList.getD 159 undef, T.toList.getD 160 undef, T.toList.getD 161 undef, T.toList.getD 162 undef, T.toList.getD 163 undef, T.toList.getD 164 undef, T.toList.getD 165 undef, T.toList.getD 166 undef, T.toList.getD 167 undef, T.toList.getD 168 undef, T.toList.getD 169 undef, T.toList.getD 170 undef, T.toList.getD 171 undef, T.toList.getD 172 undef, T.toList.getD 173 undef, T.toList.getD 174 undef, T.toList.getD 175 undef, T.toList.getD 176 undef, T.toList.getD 177 undef, T.toList.getD 178 undef, T.toList.getD 179 undef, T.toList.getD 180 undef, T.toList.getD 181 undef, T.toList.getD 182 undef, T.toList.getD 183 undef, T.toList.getD 184 undef, T.toList.getD 185 undef, T.toList.getD 186 undef, T.toList.getD 187 undef, T.toList.getD 188 undef, T.toList.getD 189 undef, T.toList.getD 190 undef, T.toList.getD 191 undef, T.toList.getD 192 undef, T.toList.getD 193 undef, T.toList.getD 194 undef, T.toList.getD 195 undef, T.toList.getD 196 undef, T.toList.getD 197 undef, T.toList.getD 198 undef, T.toList.getD 199 undef, T.toList.getD 200 undef, T.toList.getD 201 undef, T.toList.getD 202 undef, T.toList.getD 203 undef, T.toList.getD 204 undef, T.toList.getD 205 undef, T.toList.getD 206 undef, T.toList.getD 207 undef, T.toList.getD 208 undef, T.toList.getD 209 undef, T.toList.getD 210 undef, T.toList.getD 211 undef, T.toList.getD 212 undef, T.toList.getD 213 undef, T.toList.getD 214 undef, T.toList.getD 215 undef, T.toList.getD 216 undef, T.toList.getD 217 undef, T.toList.getD 218 undef, T.toList.getD 219 undef, T.toList.getD 220 undef, T.toList.getD 221 undef, T.toList.getD 222 undef, T.toList.getD 223 undef, T.toList.getD 224 undef, T.toList.getD 225 undef, T.toList.getD 226 undef, T.toList.getD 227 undef, T.toList.getD 228 undef, T.toList.getD 229 undef, T.toList.getD 230 undef, T.toList.getD 231 undef, T.toList.getD 232 undef, T.toList.getD 233 undef, T.toList.getD 234 undef, T.toList.getD 235 undef, T.toList.getD 236 undef, T.toList.getD 237 undef, T.toList.getD 238 undef, T.toList.getD 239 undef, T.toList.getD 240 undef, T.toList.getD 241 undef, T.toList.getD 242 undef, T.toList.getD 243 undef, T.toList.getD 244 undef, T.toList.getD 245 undef, T.toList.getD 246 undef, T.toList.getD 247 undef, T.toList.getD 248 undef, T.toList.getD 249 undef, T.toList.getD 250 undef, T.toList.getD 251 undef, T.toList.getD 252 undef, T.toList.getD 253 undef, T.toList.getD 254 undef, T.toList.getD 255 undef, T.toList.getD 256 undef, T.toList.getD 257 undef, T.toList.getD 258 undef, T.toList.getD 259 undef, T.toList.getD 260 undef, T.toList.getD 261 undef, T.toList.getD 262 undef, T.toList.getD 263 undef, T.toList.getD 264 undef, T.toList.getD 265 undef, T.toList.getD 266 undef, T.toList.getD 267 undef, T.toList.getD 268 undef, T.toList.getD 269 undef, T.toList.getD 270 undef, T.toList.getD 271 undef, T.toList.getD 272 undef, T.toList.getD 273 undef, T.toList.getD 274 undef, T.toList.getD 275 undef, T.toList.getD 276 undef, T.toList.getD 277 undef, T.toList.getD 278 undef, T.toList.getD 279 undef, T.toList.getD 280 undef, T.toList.getD 281 undef, T.toList.getD 282 undef, T.toList.getD 283 undef, T.toList.getD 284 undef, T.toList.getD 285 undef, T.toList.getD 286 undef, T.toList.getD 287 undef, T.toList.getD 288 undef, T.toList.getD 289 undef, T.toList.getD 290 undef, T.toList.getD 291 undef, T.toList.getD 292 undef, T.toList.getD 293 undef, T.toList.getD 294 undef, T.toList.getD 295 undef, T.toList.getD 296 undef, T.toList.getD 297 undef, T.toList.getD 298 undef, T.toList.getD 299 undef, T.toList.getD 300 undef, T.toList.getD 301 undef, T.toList.getD 302 undef, T.toList.getD 303 undef, T.toList.getD 304 undef, T.toList.getD 305 undef, T.toList.getD 306 undef, T.toList.getD 307 undef, T.toList.getD 308 undef, T.toList.getD 309 undef, T.toList.getD 310 undef, T.toList.getD 311 undef, T.toList.getD 312 undef] → Code.wp Try.prog (rest 50) Q { tmps := T, defers := Ds.map Mk.mark } wx) :
    Code.wp Try.prog (rest 42) Q { tmps := #[.int .i64 f, .slice a0 len0 cap0, .int .i64 leave, .pointer (some ⟨bf, 0, none⟩), U 4, .pointer (some ⟨bl, 0, none⟩), .pointer (some ⟨br, 0, none⟩), .pointer (some ⟨p, 0, none⟩), .pointer (some ⟨q, 0, none⟩), .pointer (some ⟨bh, 0, none⟩), .func (.func 6) #[] #[.pointer (some ⟨bf, 0, none⟩), .pointer (some ⟨bh, 0, none⟩)], .int .i64 (i : Int), .int .i64 k, U 13, U 14, U 15, U 16, xv, .bool b, yv, .bool b, zv, .bool b, .int .i64 ((fr : Int) + (ss.length : Int)), .slice none 0 0, .slice none 0 0, U 26, U 27, U 28, U 29, U 30, U 31, U 32, U 33, U 34, U 35, U 36, U 37, U 38, U 39, U 40, U 41, U 42, U 43, U 44, U 45, U 46, U 47, U 48, U 49, U 50, U 51, U 52, U 53, U 54, U 55, U 56, U 57, U 58, U 59, U 60, U 61, U 62, U 63, U 64, U 65, U 66, U 67, U 68, U 69, U 70, U 71, U 72, U 73, U 74, U 75, U 76, U 77, U 78, U 79, U 80, U 81, U 82, U 83, U 84, U 85, U 86, U 87, U 88, U 89, U 90, U 91, U 92, U 93, U 94, U 95, U 96, U 97, U 98, U 99, U 100, U 101, U 102, U 103, U 104, U 105, U 106, U 107, U 108, U 109, U 110, U 111, U 112, U 113, U 114, U 115, U 116, U 117, U 118, U 119, U 120, U 121, U 122, U 123, U 124, U 125, U 126, U 127, U 128, U 129, U 130, U 131, U 132, U 133, U 134, U 135, U 136, U 137, U 138, U 139, U 140, U 141, U 142, U 143, U 144, U 145, U 146, U 147, U 148, U 149, U 150, U 151, U 152, U 153, U 154, U 155, U 156, U 157, U 158, U 159, U 160, U 161, U 162, U 163, U 164, U 165, U 166, U 167, U 168, U 169, U 170, U 171, U 172, U 173, U 174, U 175, U 176, U 177, U 178, U 179, U 180, U 181, U 182, U 183, U 184, U 185, U 186, U 187, U 188, U 189, U 190, U 191, U 192, U 193, U 194, U 195, U 196, U 197, U 198, U 199, U 200, U 201, U 202, U 203, U 204, U 205, U 206, U 207, U 208, U 209, U 210, U 211, U 212, U 213, U 214, U 215, U 216, U 217, U 218, U 219, U 220, U 221, U 222, U 223, U 224, U 225, U 226, U 227, U 228, U 229, U 230, U 231, U 232, U 233, U 234, U 235, U 236, U 237, U 238, U 239, U 240, U 241, U 242, U 243, U 244, U 245, U 246, U 247, U 248, U 249, U 250, U 251, U 252, U 253, U 254, U 255, U 256, U 257, U 258, U 259, U 260, U 261, U 262, U 263, U 264, U 265, U 266, U 267, U 268, U 269, U 270, U 271, U 272, U 273, U 274, U 275, U 276, U 277, U 278, U 279, U 280, U 281, U 282, U 283, U 284, U 285, U 286, U 287, U 288, U 289, U 290, U 291, U 292, U 293, U 294, U 295, U 296, U 297, U 298, U 299, U 300, U 301, U 302, U 303, U 304, U 305, U 306, U 307, U 308, U 309, U 310, U 311, U 312], defers := Ds.map Mk.mark } wa := by
  obtain ⟨rfl, hgz, hcz, hi, hi60, htop⟩ := hA
  conv => arg 2; whnf
  have hbf := hP.pf.cell 0
  simp at hbf
  have hlen := hP.len
  have hfr : fr + ss.length ≤ 70000 := by omega
  have e7 := and_7 (x / 1024)
  have HP := Lib.hid hP
  have HN := Lib.hid hnext
  have HCZ := Lib.hid (show ∀ wy, Below wa.heap.size wa wy → wy.cell? ⟨gz, oz + i, none⟩ = some (.int .i64 x) from fun wy hy => (hy.cell (p := ⟨gz, oz + i, none⟩) (Nat.lt_of_lt_of_le hgz hP.bel.size)).trans ((hP.bel.cell (p := ⟨gz, oz + i, none⟩) hgz).trans hcz))
  clear hP hnext hlen hcz
  go_upto_block 7 with fail
  go_cut [24, 25, 27, 28, 29] from 187 to 215 (fun s24 s25 s27 s28 s29 wx => ∃ (Ak Am : Option Addr) (nk ck nm cm : Nat), s24 = .slice Ak nk ck ∧ s25 = .slice Am nm cm ∧ Below wa.heap.size wa wx ∧ Rd wx wx.heap.size Ak nk (iv (kO fr ss ss.length)) ∧ nk ≤ ck ∧ nk ≤ 100000 ∧ Rd wx wx.heap.size Am nm (iv (mO fr ss (x / 1024 % 8).toNat ss.length)) ∧ nm ≤ 100000)
  case first =>
    have HR0 := Lib.hid (show Rows2 wa.heap.size wa (.slice none 0 0) (.slice none 0 0) 0 0 (iv []) (iv []) from ⟨⟨rfl, .inl ⟨rfl, rfl⟩⟩, ⟨rfl, .inl ⟨rfl, rfl⟩⟩, .inl rfl⟩)
    clear hbf
    go_wp2_with fail
    go_loopw [24, 25, 27] (fun s24 s25 s27 wy => ∃ (n nk nm ck cm : Nat) (Ak Am : Option Addr), n ≤ ss.length ∧ s27 = .int .i64 ((fr : Int) + 1 + (n : Int)) ∧ s24 = .slice Ak nk ck ∧ s25 = .slice Am nm cm ∧
        Hid (Rows2 wa.heap.size wy (.slice Ak nk ck) (.slice Am nm cm) nk nm (iv (kO fr ss n)) (iv (mO fr ss (x / 1024 % 8).toNat n))) ∧ Hid (Below wa.heap.size wa wy))
      (fun _ _ s27 _ => 100000 - (intOf s27).toNat)
    case atStart => exact ⟨0, 0, 0, 0, 0, none, none, by omega, by simp, rfl, rfl, by simpa [kO, mO, Wd.pairs, Wd.holes] using HR0, Lib.hid (Below.refl _ _)⟩
    case round =>
      obtain ⟨n, nk, nm, ck, cm, Ak, Am, hn, rfl, rfl, rfl, HR, HB⟩ := hrel
      have hkl : nk ≤ n := by have h1 := HR.out.a.1; have h2 := kO_len fr ss n; simp [iv] at h1; omega
      have hml : nm ≤ 8 := by have h1 := HR.out.b.1; have h2 := mO_len fr ss (x / 1024 % 8).toNat n; simp [iv] at h1; omega
      have hmn : (mO fr ss (x / 1024 % 8).toNat n).length = nm := by have h1 := HR.out.b.1; simp [iv] at h1; omega
      have HMN := Lib.hid hmn
      clear hmn
      by_cases hlt : n < ss.length
      · obtain ⟨s, hs⟩ : ∃ s, ss[n]? = some s := ⟨_, List.getElem?_eq_getElem hlt⟩
        have HS := Lib.hid hs
        have HP1 := Lib.hid (HP.out.keep HB.out)
        have hmap := HP1.out.map
        have hbh := HP1.out.ph.cell 0
        simp at hbh
        have hwf : (Lit.int .i64 ((fr : Int) + 1 + (n : Int))).wf = true := WalkArith.wf_i64 (by omega)
        have hkey := keyOf_int_mk (P := Try.prog) Try.underlying3 hwf
        have hhas : Maps.has D (.int .i64 ((fr : Int) + 1 + (n : Int))) = s.isSome := by
          rw [HP1.out.tie.has _ hwf, Wd.hasB_join]
          have e1 : ((fr : Int) + 1 + (n : Int) - fr - 1).toNat = n := by omega
          rw [e1, HS.out]
          simp; omega
        cases s with
        | some v =>
          simp only [Option.isSome_some] at hhas
          go_wp2_with (first
            | (at_lookup; refine wpList_lookup_own_ok_int _ rfl _ _ 28 rfl 3 3 .i64 Mw.law Try.underlying28 Try.underlying3 (Mw.zeroI _) B _ D rfl hmap _ _ rfl hkey ?_; intro c hat hwc; rw [hhas])
            | (at_builtin
               refine wpList_append_cells2 (W := wa) intCp (.tmp 199) (.tmp 201) rfl (by rfl) rfl (HR.out.below ((Below.refl _ _).alloc (Nat.le_refl _) _)).a rfl (Rd.oneV _ _ _) (iv_one [_]) (by omega) (by omega) (HB.out.alloc HB.out.size _) ?_
               intro A2 c2 w2 hown2 hB2 hg2 hblk2)
            | fail)
          go_roundw
          case rel =>
            refine ⟨n + 1, nk + 1, nm, c2, cm, A2, Am, by omega, by go_num, rfl, rfl, Lib.hid ?_, Lib.hid hB2⟩
            rw [kO_some HS.out, mO_some HS.out, iv_append]
            exact (HR.out.below ((Below.refl _ _).alloc (Nat.le_refl _) _)).grow hown2 hg2 hblk2
          case measure => simp only [intOf]; omega
        | none =>
          simp only [Option.isSome_none] at hhas
          have hcx := HCZ.out _ HB.out
          by_cases hm : (nm : Int) < x / 1024 % 8
          · go_wp2_with (first
              | (at_lookup; refine wpList_lookup_own_ok_int _ rfl _ _ 28 rfl 3 3 .i64 Mw.law Try.underlying28 Try.underlying3 (Mw.zeroI _) B _ D rfl hmap _ _ rfl hkey ?_; intro c hat hwc; rw [hhas])
              | (at_builtin
                 refine wpList_append_cells2 (W := wa) intCp (.tmp 212) (.tmp 214) rfl (by rfl) rfl (HR.out.below ((Below.refl _ _).alloc (Nat.le_refl _) _)).b rfl (Rd.oneV _ _ _) (iv_one [_]) (by omega) (by omega) (HB.out.alloc HB.out.size _) ?_
                 intro A2 c2 w2 hown2 hB2 hg2 hblk2)
              | fail)
            go_roundw
            case rel =>
              refine ⟨n + 1, nk, nm + 1, ck, c2, Ak, A2, by omega, by go_num, rfl, rfl, Lib.hid ?_, Lib.hid hB2⟩
              rw [kO_none HS.out, mO_more HS.out (by rw [HMN.out]; omega), iv_append]
              exact ((HR.out.below ((Below.refl _ _).alloc (Nat.le_refl _) _)).swap.grow hown2 hg2 hblk2).swap
            case measure => simp only [intOf]; omega
          · go_wp2_with (first
              | (at_lookup; refine wpList_lookup_own_ok_int _ rfl _ _ 28 rfl 3 3 .i64 Mw.law Try.underlying28 Try.underlying3 (Mw.zeroI _) B _ D rfl hmap _ _ rfl hkey ?_; intro c hat hwc; rw [hhas])
              | fail)
            go_roundw
            case rel =>
              refine ⟨n + 1, nk, nm, ck, cm, Ak, Am, by omega, by go_num, rfl, rfl, Lib.hid ?_, HB⟩
              rw [kO_none HS.out, mO_full HS.out (by rw [HMN.out]; omega)]
              exact HR.out
            case measure => simp only [intOf]; omega
      · obtain rfl : n = ss.length := by omega
        go_wp2_with fail
        go_meet
        exact ⟨Ak, Am, nk, ck, nm, cm, rfl, rfl, HB.out, Rd.own_ HR.out.a, (own_cap HR.out.a).1, by omega, Rd.own_ HR.out.b, by omega⟩
  case rest =>
    obtain ⟨Ak, Am, nk, ck, nm, cm, rfl, rfl, g1, g2, g3, g4, g5, g6⟩ := hcut
    rename_i hK
    refine hK _ _ ?_
    exact HN.out _ _ _ _ _ _ _ _ g1 g2 g3 g4 g5 g6 rfl
end Py
end Go.Proofs.Yteafbljdlcbckaa
