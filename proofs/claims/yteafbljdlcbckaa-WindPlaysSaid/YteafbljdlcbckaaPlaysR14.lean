/- WindPlays: the switch, and what follows it: a round from the number on. -/
import Derived.Test.YteafbljdlcbckaaPlaysR2
import Derived.Test.YteafbljdlcbckaaPlaysR15
import Derived.Test.YteafbljdlcbckaaPlaysR3
import Derived.Test.YteafbljdlcbckaaPlaysR4
import Derived.Test.YteafbljdlcbckaaPlaysR6
import Derived.Test.YteafbljdlcbckaaPlaysR7
import Derived.Test.YteafbljdlcbckaaPlaysR7f
namespace Go.Proofs.Yteafbljdlcbckaa
open Go.RowKit Go.Maps
set_option linter.unusedVariables false
namespace Py
theorem most_8 (x : Int) : WI.most64 (x / 1024 % 8) = (x / 1024 % 8).toNat := by unfold WI.most64; omega
set_option maxRecDepth 100000 in
set_option maxHeartbeats 4000000 in
/-- from the look at both windows and the map on -/
theorem r33 {Q : Exit → Act → World → Prop} (U : Nat → Value) (Ds : List Nat) {f leave k x : Int} {a0 : Option Addr} {len0 cap0 gz oz : Nat} {w wr : World} {p q bf bl br bh B i fr : Nat} {ss : List (Option Int)} {tt : List (Option WY.V)} {D : DataW Unit}
    (hA : Act1 w a0 len0 i x gz oz) (hP : Pl.PlayS w wr p q bf bl br bh B leave (i + 1) fr ss tt D) (hMk : Mk.Marks w.heap.size Ds wr) (hk : -20 ≤ k ∧ k ≤ 80000)
    (hQ : ∀ a' w', FinI f a0 len0 cap0 leave w p q bf bl br bh B i a' w' → Q .normal a' w') :
    Code.wp Try.prog (rest 33) Q { tmps := #[.int .i64 f, .slice a0 len0 cap0, .int .i64 leave, .pointer (some ⟨bf, 0, none⟩), U 4, .pointer (some ⟨bl, 0, none⟩), .pointer (some ⟨br, 0, none⟩), .pointer (some ⟨p, 0, none⟩), .pointer (some ⟨q, 0, none⟩), .pointer (some ⟨bh, 0, none⟩), .func (.func 6) #[] #[.pointer (some ⟨bf, 0, none⟩), .pointer (some ⟨bh, 0, none⟩)], .int .i64 (i : Int), .int .i64 k, U 13, U 14, U 15, U 16, U 17, U 18, U 19, U 20, U 21, U 22, U 23, U 24, U 25, U 26, U 27, U 28, U 29, U 30, U 31, U 32, U 33, U 34, U 35, U 36, U 37, U 38, U 39, U 40, U 41, U 42, U 43, U 44, U 45, U 46, U 47, U 48, U 49, U 50, U 51, U 52, U 53, U 54, U 55, U 56, U 57, U 58, U 59, U 60, U 61, U 62, U 63, U 64, U 65, U 66, U 67, U 68, U 69, U 70, U 71, U 72, U 73, U 74, U 75, U 76, U 77, U 78, U 79, U 80, U 81, U 82, U 83, U 84, U 85, U 86, U 87, U 88, U 89, U 90, U 91, U 92, U 93, U 94, U 95, U 96, U 97, U 98, U 99, U 100, U 101, U 102, U 103, U 104, U 105, U 106, U 107, U 108, U 109, U 110, U 111, U 112, U 113, U 114, U 115, U 116, U 117, U 118, U 119, U 120, U 121, U 122, U 123, U 124, U 125, U 126, U 127, U 128, U 129, U 130, U 131, U 132, U 133, U 134, U 135, U 136, U 137, U 138, U 139, U 140, U 141, U 142, U 143, U 144, U 145, U 146, U 147, U 148, U 149, U 150, U 151, U 152, U 153, U 154, U 155, U 156, U 157, U 158, U 159, U 160, U 161, U 162, U 163, U 164, U 165, U 166, U 167, U 168, U 169, U 170, U 171, U 172, U 173, U 174, U 175, U 176, U 177, U 178, U 179, U 180, U 181, U 182, U 183, U 184, U 185, U 186, U 187, U 188, U 189, U 190, U 191, U 192, U 193, U 194, U 195, U 196, U 197, U 198, U 199, U 200, U 201, U 202, U 203, U 204, U 205, U 206, U 207, U 208, U 209, U 210, U 211, U 212, U 213, U 214, U 215, U 216, U 217, U 218, U 219, U 220, U 221, U 222, U 223, U 224, U 225, U 226, U 227, U 228, U 229, U 230, U 231, U 232, U 233, U 234, U 235, U 236, U 237, U 238, U 239, U 240, U 241, U 242, U 243, U 244, U 245, U 246, U 247, U 248, U 249, U 250, U 251, U 252, U 253, U 254, U 255, U 256, U 257, U 258, U 259, U 260, U 261, U 262, U 263, U 264, U 265, U 266, U 267, U 268, U 269, U 270, U 271, U 272, U 273, U 274, U 275, U 276, U 277, U 278, U 279, U 280, U 281, U 282, U 283, U 284, U 285, U 286, U 287, U 288, U 289, U 290, U 291, U 292, U 293, U 294, U 295, U 296, U 297, U 298, U 299, U 300, U 301, U 302, U 303, U 304, U 305, U 306, U 307, U 308, U 309, U 310, U 311, U 312], defers := Ds.map Mk.mark } wr := by
  obtain ⟨m, hm⟩ : ∃ m : Nat, leave % 16 + 1 = (m : Int) := ⟨(leave % 16 + 1).toNat, by omega⟩
  refine r3 U Ds hP hMk hk ?_
  intro T b xv yv zv wx hP2 hM2 hS2 hT
  rw [hT]
  refine r4 (fun n => T.toList.getD n undef) Ds hP2 (by have := hA.h60; omega) ?_
  intro T3 w3 hb3 hT3
  rw [hT3]
  refine r5 (fun n => T3.toList.getD n undef) Ds hA (hP2.keep hb3) ?_
  intro T4 w4 Ak Am nk ck nm cm hb4 hr4 hck hnk hr4' hnm hT4
  rw [hT4]
  refine r6 (fun n => T4.toList.getD n undef) Ds ((hP2.keep hb3).keep hb4) hA.h60 hm ?_
  intro T5 w5 Dm gt At nt ct hb5 hgt hr5 hnt hD hDm hT5
  rw [hT5]
  have hM4 := (hM2.below hb3).below hb4
  have hM5 : Mk.Marks w.heap.size (Dm :: Ds) w5 := hM4.cons (hM4.below hb5) hD hDm (Nat.le_trans ((hP2.keep hb3).keep hb4).bel.size hDm)
  have hP5 := ((hP2.keep hb3).keep hb4).keep hb5
  have hS5 := ((hS2.below hb3).below hb4).below hb5
  have hmiss : Wd.missing (WI.most64 (x / 1024 % 8)) fr ss = mO fr ss (x / 1024 % 8).toNat ss.length := by
    rw [Wd.missing_eq _ _ _ hP5.ends, most_8]; unfold mO; rw [List.take_length]
  cases b with
  | true =>
    obtain ⟨v, ga, oa, cz, rfl, rfl, rfl, h0, h1, hc⟩ := hS5 rfl
    exact r7t (fun n => T5.toList.getD n undef) (Dm :: Ds) hA hP5 hM5 v ⟨h0, h1⟩ ga oa cz hc hm (hr4.below hb5).fit hck (by omega) (hr4'.below hb5).fit (by omega) hmiss hgt hr5 (by omega) rfl hQ
  | false =>
    exact r7f (fun n => match n with | 17 => xv | 19 => yv | 21 => zv | n => T5.toList.getD n undef) (Dm :: Ds) hA hP5 hM5 hm (hr4.below hb5).fit hck (by omega) (hr4'.below hb5).fit (by omega) hmiss hgt hr5 (by omega) rfl hQ
end Py
end Go.Proofs.Yteafbljdlcbckaa
