/- WindPlays: the walk. -/
import Derived.Test.YteafbljdlcbckaaPlaysR11
namespace Go.Proofs.Yteafbljdlcbckaa
open Go.RowKit Go.Maps
set_option linter.unusedVariables false
attribute [local go_sem] Oper.semAt_some
theorem WinR_base {w : World} {base base' b fr wh : Nat} {ss : List (Option WI.V)} (h : WI.WinR w base b fr wh ss) (hb : base' ≤ base) : WI.WinR w base' b fr wh ss := by
  obtain ⟨A, n, c, h1, h2, h3, h4⟩ := h
  exact ⟨A, n, c, h1, ⟨h2.len, h2.le, h2.max, h2.blk.imp id fun ⟨g, o, cur, e1, e2, e3⟩ => ⟨g, o, cur, e1, Nat.le_trans hb e2, e3⟩⟩, Nat.le_trans hb h3, h4⟩
theorem WinY_base {w : World} {base base' b fr wh : Nat} {ss : List (Option WY.V)} (h : WY.WinR w base b fr wh ss) (hb : base' ≤ base) : WY.WinR w base' b fr wh ss := by
  obtain ⟨A, n, c, h1, h2, h3, h4⟩ := h
  exact ⟨A, n, c, h1, ⟨h2.len, h2.le, h2.max, h2.blk.imp id fun ⟨g, o, cur, e1, e2, e3⟩ => ⟨g, o, cur, e1, Nat.le_trans hb e2, e3⟩⟩, Nat.le_trans hb h3, h4⟩
theorem _root_.Go.Proofs.Yteafbljdlcbckaa.Rd.int_at' {w : World} {B n k : Nat} {A : Option Addr} {zs : List Int} (h : Rd w B A n (iv zs)) (hk : k < n) : ∃ b o, A = some ⟨b, o, none⟩ ∧ b < B ∧ k < zs.length := by
  obtain ⟨b, o, e, hb, hc⟩ := h.2 (by omega)
  exact ⟨b, o, e, hb, by have := h.1; rw [iv_length] at this; omega⟩
set_option maxRecDepth 100000 in
theorem r11T {Q : Exit → Act → World → Prop} {Ds : List Nat} {f leave x : Int} {a0 : Option Addr} {len0 cap0 gz oz : Nat} {w wa : World} {p q bf bl br bh B i fr : Nat} {ss : List (Option Int)} {tt : List (Option WY.V)} {D : DataW Unit} (T : Array Value) (hT : T = #[.int .i64 f, .slice a0 len0 cap0, .int .i64 leave, .pointer (some ⟨bf, 0, none⟩), T.toList.getD 4 undef, .pointer (some ⟨bl, 0, none⟩), .pointer (some ⟨br, 0, none⟩), .pointer (some ⟨p, 0, none⟩), .pointer (some ⟨q, 0, none⟩), .pointer (some ⟨bh, 0, none⟩), .func (.func 6) #[] #[.pointer (some ⟨bf, 0, none⟩), .pointer (some ⟨bh, 0, none⟩)], .int .i64 (i : Int), T.toList.getD 12 undef, T.toList.getD 13 undef, T.toList.getD 14 undef, T.toList.getD 15 undef, T.toList.getD 16 undef, T.toList.getD 17 undef, T.toList.getD 18 undef, T.toList.getD 19 undef, T.toList.getD 20 undef, T.toList.getD 21 undef, T.toList.getD 22 undef, T.toList.getD 23 undef, T.toList.getD 24 undef, T.toList.getD 25 undef, T.toList.getD 26 undef, T.toList.getD 27 undef, T.toList.getD 28 undef, T.toList.getD 29 undef, T.toList.getD 30 undef, T.toList.getD 31 undef, T.toList.getD 32 undef, T.toList.getD 33 undef, T.toList.getD 34 undef, T.toList.getD 35 undef, T.toList.getD 36 undef, T.toList.getD 37 undef, T.toList.getD 38 undef, T.toList.getD 39 undef, T.toList.getD 40 undef, T.toList.getD 41 undef, T.toList.getD 42 undef, T.toList.getD 43 undef, T.toList.getD 44 undef, T.toList.getD 45 undef, T.toList.getD 46 undef, T.toList.getD 47 undef, T.toList.getD 48 undef, T.toList.getD 49 undef, T.toList.getD 50 undef, T.toList.getD 51 undef, T.toList.getD 52 undef, T.toList.getD 53 undef, T.toList.getD 54 undef, T.toList.getD 55 undef, T.toList.getD 56 undef, T.toList.getD 57 undef, T.toList.getD 58 undef, T.toList.getD 59 undef, T.toList.getD 60 undef, T.toList.getD 61 undef, T.toList.getD 62 undef, T.toList.getD 63 undef, T.toList.getD 64 undef, T.toList.getD 65 undef, T.toList.getD 66 undef, T.toList.getD 67 undef, T.toList.getD 68 undef, T.toList.getD 69 undef, T.toList.getD 70 undef, T.toList.getD 71 undef, T.toList.getD 72 undef, T.toList.getD 73 undef, T.toList.getD 74 undef, T.toList.getD 75 undef, T.toList.getD 76 undef, T.toList.getD 77 undef, T.toList.getD 78 undef, T.toList.getD 79 undef, T.toList.getD 80 undef, T.toList.getD 81 undef, T.toList.getD 82 undef, T.toList.getD 83 undef, T.toList.getD 84 undef, T.toList.getD 85 undef, T.toList.getD 86 undef, T.toList.getD 87 undef, T.toList.getD 88 undef, T.toList.getD 89 undef, T.toList.getD 90 undef, T.toList.getD 91 undef, T.toList.getD 92 undef, T.toList.getD 93 undef, T.toList.getD 94 undef, T.toList.getD 95 undef, T.toList.getD 96 undef, T.toList.getD 97 undef, T.toList.getD 98 undef, T.toList.getD 99 undef, T.toList.getD 100 undef, T.toList.getD 101 undef, T.toList.getD 102 undef, T.toList.getD 103 undef, T.toList.getD 104 undef, T.toList.getD 105 undef, T.toList.getD 106 undef, T.toList.getD 107 undef, T.toList.getD 108 undef, T.toList.getD 109 undef, T.toList.getD 110 undef, T.toList.getD 111 undef, T.toList.getD 112 undef, T.toList.getD 113 undef, T.toList.getD 114 undef, T.toList.getD 115 undef, T.toList.getD 116 undef, T.toList.getD 117 undef, T.toList.getD 118 undef, T.toList.getD 119 undef, T.toList.getD 120 undef, T.toList.getD 121 undef, T.toList.getD 122 undef, T.toList.getD 123 undef, T.toList.getD 124 undef, T.toList.getD 125 undef, T.toList.getD 126 undef, T.toList.getD 127 undef, T.toList.getD 128 undef, T.toList.getD 129 undef, T.toList.getD 130 undef, T.toList.getD 131 undef, T.toList.getD 132 undef, T.toList.getD 133 undef, T.toList.getD 134 undef, T.toList.getD 135 undef, T.toList.getD 136 undef, T.toList.getD 137 undef, T.toList.getD 138 undef, T.toList.getD 139 undef, T.toList.getD 140 undef, T.toList.getD 141 undef, T.toList.getD 142 undef, T.toList.getD 143 undef, T.toList.getD 144 undef, T.toList.getD 145 undef, T.toList.getD 146 undef, T.toList.getD 147 undef, T.toList.getD 148 undef, T.toList.getD 149 undef, T.toList.getD 150 undef, T.toList.getD 151 undef, T.toList.getD 152 undef, T.toList.getD 153 undef, T.toList.getD 154 undef, T.toList.getD 155 undef, T.toList.getD 156 undef, T.toList.getD 157 undef, T.toList.getD 158 undef, T.toList.getD 159 undef, T.toList.getD 160 undef, T.toList.getD 161 undef, T.toList.getD 162 undef, T.toList.getD 163 undef, T.toList.getD 164 undef, T.toList.getD 165 undef, T.toList.getD 166 undef, T.toList.getD 167 undef, T.toList.getD 168 undef, T.toList.getD 169 undef, T.toList.getD 170 undef, T.toList.getD 171 undef, T.toList.getD 172 undef, T.toList.getD 173 undef, T.toList.getD 174 undef, T.toList.getD 175 undef, T.toList.getD 176 undef, T.toList.getD 177 undef, T.toList.getD 178 undef, T.toList.getD 179 undef, T.toList.getD 180 undef, T.toList.getD 181 undef, T.toList.getD 182 undef, T.toList.getD 183 undef, T.toList.getD 184 undef, T.toList.getD 185 undef, T.toList.getD 186 undef, T.toList.getD 187 undef, T.toList.getD 188 undef, T.toList.getD 189 undef, T.toList.getD 190 undef, T.toList.getD 191 undef, T.toList.getD 192 undef, T.toList.getD 193 undef, T.toList.getD 194 undef, T.toList.getD 195 undef, T.toList.getD 196 undef, T.toList.getD 197 undef, T.toList.getD 198 undef, T.toList.getD 199 undef, T.toList.getD 200 undef, T.toList.getD 201 undef, T.toList.getD 202 undef, T.toList.getD 203 undef, T.toList.getD 204 undef, T.toList.getD 205 undef, T.toList.getD 206 undef, T.toList.getD 207 undef, T.toList.getD 208 undef, T.toList.getD 209 undef, T.toList.getD 210 undef, T.toList.getD 211 undef, T.toList.getD 212 undef, T.toList.getD 213 undef, T.toList.getD 214 undef, T.toList.getD 215 undef, T.toList.getD 216 undef, T.toList.getD 217 undef, T.toList.getD 218 undef, T.toList.getD 219 undef, T.toList.getD 220 undef, T.toList.getD 221 undef, T.toList.getD 222 undef, T.toList.getD 223 undef, T.toList.getD 224 undef, T.toList.getD 225 undef, T.toList.getD 226 undef, T.toList.getD 227 undef, T.toList.getD 228 undef, T.toList.getD 229 undef, T.toList.getD 230 undef, T.toList.getD 231 undef, T.toList.getD 232 undef, T.toList.getD 233 undef, T.toList.getD 234 undef, T.toList.getD 235 undef, T.toList.getD 236 undef, T.toList.getD 237 undef, T.toList.getD 238 undef, T.toList.getD 239 undef, T.toList.getD 240 undef, T.toList.getD 241 undef, T.toList.getD 242 undef, T.toList.getD 243 undef, T.toList.getD 244 undef, T.toList.getD 245 undef, T.toList.getD 246 undef, T.toList.getD 247 undef, T.toList.getD 248 undef, T.toList.getD 249 undef, T.toList.getD 250 undef, T.toList.getD 251 undef, T.toList.getD 252 undef, T.toList.getD 253 undef, T.toList.getD 254 undef, T.toList.getD 255 undef, T.toList.getD 256 undef, T.toList.getD 257 undef, T.toList.getD 258 undef, T.toList.getD 259 undef, T.toList.getD 260 undef, T.toList.getD 261 undef, T.toList.getD 262 undef, T.toList.getD 263 undef, T.toList.getD 264 undef, T.toList.getD 265 undef, T.toList.getD 266 undef, T.toList.getD 267 undef, T.toList.getD 268 undef, T.toList.getD 269 undef, T.toList.getD 270 undef, T.toList.getD 271 undef, T.toList.getD 272 undef, T.toList.getD 273 undef, T.toList.getD 274 undef, T.toList.getD 275 undef, T.toList.getD 276 undef, T.toList.getD 277 undef, T.toList.getD 278 undef, T.toList.getD 279 undef, T.toList.getD 280 undef, T.toList.getD 281 undef, T.toList.getD 282 undef, T.toList.getD 283 undef, T.toList.getD 284 undef, T.toList.getD 285 undef, T.toList.getD 286 undef, T.toList.getD 287 undef, T.toList.getD 288 undef, T.toList.getD 289 undef, T.toList.getD 290 undef, T.toList.getD 291 undef, T.toList.getD 292 undef, T.toList.getD 293 undef, T.toList.getD 294 undef, T.toList.getD 295 undef, T.toList.getD 296 undef, T.toList.getD 297 undef, T.toList.getD 298 undef, T.toList.getD 299 undef, T.toList.getD 300 undef, T.toList.getD 301 undef, T.toList.getD 302 undef, T.toList.getD 303 undef, T.toList.getD 304 undef, T.toList.getD 305 undef, T.toList.getD 306 undef, T.toList.getD 307 undef, T.toList.getD 308 undef, T.toList.getD 309 undef, T.toList.getD 310 undef, T.toList.getD 311 undef, T.toList.getD 312 undef])
    (hA : Py.Act1 w a0 len0 i x gz oz) (hP : Pl.PlayS w wa p q bf bl br bh B leave i fr ss tt D) (hMk : Mk.Marks w.heap.size Ds wa)
    (hQ : ∀ a' w', Py.FinI f a0 len0 cap0 leave w p q bf bl br bh B i a' w' → Q .normal a' w') :
    Code.wp Try.prog (Py.rest 11) Q { tmps := T, defers := Ds.map Mk.mark } wa := by
  rw [hT]
  exact Py.r11 (fun n => T.toList.getD n undef) Ds hA hP hMk hQ
/-- the way out: the result lies in a box, the marks of all rounds are come to -/
theorem plays_end {w wr w9 : World} {p q bf bl br bh B i fr : Nat} {leave : Int} {ss : List (Option Int)} {tt : List (Option WY.V)} {D : DataW Unit} {Ds : List Nat} (hS : Pl.PlayS w wr p q bf bl br bh B leave i fr ss tt D) (hM : Mk.Marks w.heap.size Ds wr)
    (hb : Below wr.heap.size wr w9) (F : Fence) (n : Nat) (tmps : Array Value) (ht : tmps[6]? = some (.pointer (some ⟨br, 0, none⟩))) :
    LeavesInM F n Try.prog Try.f3 tmps (fun e w' => e = .returned (.bool true) ∧ Below w.heap.size w w') (Ds.map Mk.mark) .returning (w9.setCell ⟨br, 0, none⟩ (.bool true)) := by
  have hM9 := hM.below hb
  have hS9 := hS.keep hb
  have hpr := hS9.pr
  refine Mk.leaves_marks Ds _ hM9.nodup (fun k hk => ?_) (fun w' e1 e2 e3 e4 e5 => ?_)
  · have hne : k ≠ br := by
      rintro rfl
      have := hM9.rec_ k hk
      rw [show w9.heap[k]? = _ from hpr] at this
      cases this
    exact (Below.heap_setCell w9 ⟨br, 0, none⟩ _ k hne).trans (hM9.rec_ k hk)
  · have hbs := hpr.set_ 0 (.bool true)
    have hne : br ∉ Ds := by
      intro hk
      have := hM9.rec_ br hk
      rw [show w9.heap[br]? = _ from hpr] at this
      cases this
    have hb' : Blk w' br 4 #[.bool true] := (e5 br hne).trans hbs
    have hc := hb'.cell 0
    simp at hc
    have hbel : Below w.heap.size w9 w' := ⟨e1, e2, e3, by rw [e4]; simp [World.setCell], fun k hk => by
      rw [e5 k (fun hm => by have := hM9.ge k hm; omega)]
      exact Below.heap_setCell w9 ⟨br, 0, none⟩ _ k (by have := hS.apart.2.2.2; show k ≠ br; omega)⟩
    refine ⟨.bool true, ?_, rfl, hS9.bel.trans hbel⟩
    simp [results, Try.f3, go_sem, ht, hc]
set_option maxRecDepth 100000 in
set_option maxHeartbeats 4000000 in
theorem windPlays_walk (f : Int) (a0 : Option Addr) (len0 cap0 : Nat) (z0 : List Int) (leave : Int) (w : World) (wf0 : (Lit.int .i64 f).wf = true) (w0 : IsRow .i64 w a0 len0 cap0 z0) (wf2 : (Lit.int .i64 leave).wf = true) :
    Calls Try.prog 3 #[.int .i64 f, .slice a0 len0 cap0, .int .i64 leave] w fun e w' => e = .returned (.bool true) ∧ Below w.heap.size w w' := by
  clear wf0 wf2
  obtain ⟨hz1, hzl1, hle1, hcap1⟩ := w0.ints
  obtain ⟨zs, hzs⟩ : ∃ zs, zs = z0.take len0 := ⟨_, rfl⟩
  rw [← hzs] at hz1 hzl1
  have hn1 : len0 ≤ 9223372036854775807 := Nat.le_trans hle1 hcap1
  have H1 := Lib.hid hz1
  have HL1 := Lib.hid hzl1
  have HN1 := Lib.hid hn1
  have hff := and_ffff f
  obtain ⟨fr, hfr, hfrn⟩ : ∃ fr : Nat, f % 65536 = (fr : Int) ∧ fr < 65536 := ⟨(f % 65536).toNat, by omega, by omega⟩
  rw [hfr] at hff
  have HF := Lib.hid hfrn
  have hmm := @run_makeMap Try.prog
  clear hz1 hzl1 hle1 hcap1 w0 hzs hn1 hfr hfrn
  refine calls_of_wp_marks Try.func3 rfl ?_
  simp only [Try.ntmps3, List.size_toArray, List.length_cons, List.length_nil, Nat.reduceAdd, Nat.reduceSub, Array.replicate_succ, Array.replicate_zero, List.push_toArray, List.append_toArray, List.nil_append, List.cons_append]
  go_wp2_with fail
  refine (WI.new_any _ (fr : Int)).mono ?_
  rintro e w3 ⟨p, rfl, hw3, hB3⟩
  have hh : WI.Wd.held (fr : Int) = fr := by have := HF.out; unfold WI.Wd.held; omega
  rw [hh] at hw3
  obtain ⟨bf, hbf⟩ : ∃ x, x = w.heap.size := ⟨_, rfl⟩
  obtain ⟨bl, hbl⟩ : ∃ x, x = w.heap.size + 1 := ⟨_, rfl⟩
  obtain ⟨br, hbr⟩ : ∃ x, x = w.heap.size + 1 + 1 := ⟨_, rfl⟩
  rw [← hbr, ← hbl, ← hbf]
  have hA : Blk w3 bf 3 #[.int .i64 (fr : Int)] ∧ Blk w3 bl 3 #[.int .i64 leave] ∧ Blk w3 br 4 #[.bool false] ∧ Below w.heap.size w w3 ∧ WI.WinR w3 w.heap.size p fr fr [] ∧ bf ≠ bl ∧ w.heap.size ≤ bf ∧ w.heap.size ≤ br := by
    have g1 := Blk.new w 3 #[.int .i64 (fr : Int)]
    have g2 := Blk.new (w.alloc (.cells #[.int .i64 (fr : Int)] 3)) 3 #[.int .i64 leave]
    have g3 := Blk.new ((w.alloc (.cells #[.int .i64 (fr : Int)] 3)).alloc (.cells #[.int .i64 leave] 3)) 4 #[.bool false]
    have e2 : (w.alloc (.cells #[.int .i64 (fr : Int)] 3)).heap.size = bl := by rw [hbl]; simp
    have e3 : ((w.alloc (.cells #[.int .i64 (fr : Int)] 3)).alloc (.cells #[.int .i64 leave] 3)).heap.size = br := by rw [hbr]; simp
    rw [e2] at g2
    rw [e3] at g3
    have hB0 : Below w.heap.size w (((w.alloc (.cells #[.int .i64 (fr : Int)] 3)).alloc (.cells #[.int .i64 leave] 3)).alloc (.cells #[.bool false] 4)) :=
      (((Below.refl _ _).alloc (Nat.le_refl _) _).alloc (by simp) _).alloc (by simp; omega) _
    refine ⟨?_, (g2.alloc _).below hB3, g3.below hB3, hB0.trans (hB3.mono hB0.size), WinR_base hw3 hB0.size, by omega, by omega, by omega⟩
    rw [hbf]
    exact ((g1.alloc _).alloc _).below hB3
  clear hw3 hB3 hh hff
  obtain ⟨hA1, hA2, hA3, hA4, hA5, hA6⟩ := hA
  have HA := Lib.hid hA4
  have HW := Lib.hid hA5
  have HP := Lib.hid hA6
  have H12 := Lib.hid (And.intro hA1 (And.intro hA2 hA3))
  clear hA4 hA5 hbr hbl hbf hA6
  have hcf := hA1.cell 0
  simp at hcf
  clear hA1 hA2 hA3
  go_wp2_with fail
  refine (WY.new_any _ (fr : Int)).mono ?_
  rintro e w4 ⟨q, rfl, hw4, hB4⟩
  have hh : WY.Wd.held (fr : Int) = fr := by have := HF.out; unfold WY.Wd.held; omega
  rw [hh] at hw4
  have HA4 := Lib.hid (HA.out.trans (hB4.mono HA.out.size))
  have HWY := Lib.hid (WinY_base hw4 HA.out.size)
  have HWI := Lib.hid (HW.out.below hB4)
  have HC4 := Lib.hid (show Blk w4 bf 3 #[.int .i64 (fr : Int)] ∧ Blk w4 bl 3 #[.int .i64 leave] ∧ Blk w4 br 4 #[.bool false] from ⟨H12.out.1.below hB4, H12.out.2.1.below hB4, H12.out.2.2.below hB4⟩)
  clear HA HW H12 hw4 hB4 hh hcf
  go_wp2_with fail
  obtain ⟨B, hB⟩ : ∃ x, x = w4.heap.size := ⟨_, rfl⟩
  obtain ⟨bh, hbh⟩ : ∃ x, x = w4.heap.size + 1 := ⟨_, rfl⟩
  rw [← hbh, ← hB]
  have hS : Pl.PlayS w ((w4.alloc (Obj.map #[] 0)).alloc (Obj.cells #[Value.map (some B)] 28)) p q bf bl br bh B leave 0 fr [] [] (.map []) := by
    have g1 := World.ownsMap_made (H := Unit) w4 Try.prog 3 (plainElem Try.prog 3)
    rw [← hB] at g1
    have h0 := HA4.out
    have b1 : Below w4.heap.size w4 ((w4.alloc (Obj.map #[] 0)).alloc (Obj.cells #[Value.map (some B)] 28)) := ((Below.refl _ _).alloc (Nat.le_refl _) _).alloc (by simp) _
    have b2 := (Below.refl (w4.alloc (Obj.map #[] 0)).heap.size (w4.alloc (Obj.map #[] 0))).alloc (Nat.le_refl _) (Obj.cells #[Value.map (some B)] 28)
    have g2 := Blk.new (w4.alloc (Obj.map #[] 0)) 28 #[Value.map (some B)]
    have e2 : (w4.alloc (Obj.map #[] 0)).heap.size = bh := by rw [hbh]; simp
    rw [e2] at g2
    exact ⟨HWI.out.below b1, HWY.out.below b1, Mw.Tie.start fr, (Pl.Kept.of_below (base := 0) (S := Pl.sW) b2).own g1, HC4.out.1.below b1, HC4.out.2.1.below b1, HC4.out.2.2.below b1, g2, h0.trans (b1.mono h0.size), Wd.ends_nil, by have := HF.out; simp; omega, fun k v h => by simp at h, Pl.Two.start _, HP.out.1, HP.out.2.1, by rw [hB]; exact h0.size, HP.out.2.2⟩
  have HS := Lib.hid hS
  clear hS hB hbh HC4 HWI HWY HA4 HF HP hmm
  refine wp_loop (Py.LoopI f a0 len0 cap0 leave w p q bf bl br bh B) (fun a' _ => 60 - (intOf (a'.tmps.getD 11 undef)).toNat) ?start ?round
  case start => exact Py.LoopI.mk _ [] 0 fr [] [] (.map []) (by omega) HS.out (Mk.Marks.nil _ _) rfl
  case round =>
    clear HS
    rintro _ wr ⟨U, Ds, i, fr', ss, tt, D, hi, hS, hM, rfl⟩
    have HSr := Lib.hid hS
    have HMr := Lib.hid hM
    have hpr := hS.pr
    clear hS hM
    by_cases hlt : i < len0 ∧ i < 60
    · obtain ⟨hk1, hk60⟩ := hlt
      obtain ⟨gz, oz, rfl, hgz, _⟩ := H1.out.int_at' hk1
      obtain ⟨x, hzk⟩ : ∃ z, zs[i]? = some z := ⟨_, List.getElem?_eq_getElem (by have := HL1.out; omega)⟩
      have hA : Py.Act1 w (some ⟨gz, oz, none⟩) len0 i x gz oz := ⟨rfl, hgz, H1.out.int_cell hk1 hzk, hk1, hk60, HN1.out⟩
      have HA := Lib.hid hA
      have hk0 : (i : Int) < (len0 : Int) := by omega
      have hk3 : (i : Int) < 60 := by omega
      clear hzk hpr hA
      go_upto_block 1 with fail
      rename_i hK
      have HKR := Lib.hid hK
      clear hK
      refine wp_block ?_
      refine r11T _ rfl HA.out HSr.out HMr.out ?_
      rintro a' w' ⟨U', Ds', fr2, ss', tt', D', hP', hM', rfl⟩
      refine HKR.out _ _ ?_
      have HP' := Lib.hid hP'
      have HM' := Lib.hid hM'
      clear hP' hM' hk0
      go_wp2_with fail
      refine ⟨Py.LoopI.mk _ Ds' (i + 1) fr2 ss' tt' D' (by omega) HP'.out HM'.out rfl, ?_⟩
      simp [intOf]
      omega
    · have hgo : ¬ ((i : Int) < (len0 : Int) ∧ (i : Int) < 60) := by omega
      by_cases hk1 : i < len0
      · have hk0 : (i : Int) < (len0 : Int) := by omega
        have hk3 : ¬ (i : Int) < 60 := by omega
        clear hlt hgo
        go_wp2_with fail
        refine (awake_any wr).mono ?_
        rintro e w9 ⟨rfl, hB9⟩
        have hb9 := hpr.below hB9
        have hc9 := hb9.cell 0
        have hf9 := hb9.frozen 0
        simp at hc9
        have HE := Lib.hid (plays_end (fr := fr') HSr.out HMr.out hB9)
        clear hpr hb9
        go_wp2_with fail
        exact HE.out _ _ _ rfl
      · have hk0 : ¬ (i : Int) < (len0 : Int) := by omega
        clear hlt hgo
        go_wp2_with fail
        refine (awake_any wr).mono ?_
        rintro e w9 ⟨rfl, hB9⟩
        have hb9 := hpr.below hB9
        have hc9 := hb9.cell 0
        have hf9 := hb9.frozen 0
        simp at hc9
        have HE := Lib.hid (plays_end (fr := fr') HSr.out HMr.out hB9)
        clear hpr hb9
        go_wp2_with fail
        exact HE.out _ _ _ rfl
end Go.Proofs.Yteafbljdlcbckaa
