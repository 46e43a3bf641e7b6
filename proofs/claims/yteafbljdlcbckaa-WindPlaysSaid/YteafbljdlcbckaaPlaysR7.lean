/- WindPlays: the last piece of a round: what the window tells is what the map says. -/
import Derived.Test.YteafbljdlcbckaaPlaysA
import Derived.Test.YteafbljdlcbckaaPlaysS7
import Derived.Deep.RegionHeld
import Derived.Deep.RegionWith
import Derived.Deep.RegionHeld3
import Derived.Deep.DrawnRows
namespace Go.Proofs.Yteafbljdlcbckaa
open Go.RowKit Go.Maps
set_option linter.unusedVariables false
attribute [local go_sem ↓] Go.wp_at_zero Go.wp_at_succ
namespace Py
set_option maxRecDepth 100000 in
set_option maxHeartbeats 4000000 in
theorem r7t {Q : Exit → Act → World → Prop} (U : Nat → Value) (Ds : List Nat) {f leave x k : Int} {a0 : Option Addr} {len0 cap0 : Nat} {w wr : World} {p q bf bl br bh B i fr gz oz : Nat} {ss : List (Option Int)} {tt : List (Option WY.V)} {D : DataW Unit}
    {Ak Am At : Option Addr} {nk ck nm cm nt ct gt m : Nat} {keys miss told : List Int} (hA : Act1 w a0 len0 i x gz oz) (hP : Pl.PlayS w wr p q bf bl br bh B leave (i + 1) fr ss tt D) (hMk : Mk.Marks w.heap.size Ds wr) (v : Int) (hv : 0 ≤ v ∧ v < 60) (ga oa cz : Nat) (hz : wr.cell? ⟨ga, oa, none⟩ = some (.int .u8 v)) (hm : leave % 16 + 1 = (m : Int))
    (HK : Rd wr wr.heap.size Ak nk (iv keys)) (hck : nk ≤ ck) (hnk : nk ≤ 9223372036854775807) (HM : Rd wr wr.heap.size Am nm (iv miss)) (hnm : nm ≤ 9223372036854775807) (hmiss : Wd.missing (WI.most64 (x / 1024 % 8)) fr ss = miss)
    (hgt : Blk wr gt 22 #[.slice At nt ct]) (HT : Rd wr wr.heap.size At nt (iv told)) (hnt : nt ≤ 9223372036854775807) (htold : told = keys.take m)
    (hQ : ∀ a' w', FinI f a0 len0 cap0 leave w p q bf bl br bh B i a' w' → Q .normal a' w') :
    Code.wp Try.prog (rest 58) Q { tmps := #[.int .i64 f, .slice a0 len0 cap0, .int .i64 leave, .pointer (some ⟨bf, 0, none⟩), U 4, .pointer (some ⟨bl, 0, none⟩), .pointer (some ⟨br, 0, none⟩), .pointer (some ⟨p, 0, none⟩), .pointer (some ⟨q, 0, none⟩), .pointer (some ⟨bh, 0, none⟩), .func (.func 6) #[] #[.pointer (some ⟨bf, 0, none⟩), .pointer (some ⟨bh, 0, none⟩)], .int .i64 (i : Int), .int .i64 k, U 13, U 14, U 15, U 16, .int .i64 v, .bool true, .int .i64 v, .bool true, .slice (some ⟨ga, oa, none⟩) 1 cz, .bool true, .int .i64 ((fr : Int) + (ss.length : Int)), .slice Ak nk ck, .slice Am nm cm, U 26, U 27, U 28, U 29, .pointer (some ⟨gt, 0, none⟩), U 31, U 32, U 33, U 34, U 35, U 36, U 37, U 38, U 39, U 40, U 41, U 42, U 43, U 44, U 45, U 46, U 47, U 48, U 49, U 50, U 51, U 52, U 53, U 54, U 55, U 56, U 57, U 58, U 59, U 60, U 61, U 62, U 63, U 64, U 65, U 66, U 67, U 68, U 69, U 70, U 71, U 72, U 73, U 74, U 75, U 76, U 77, U 78, U 79, U 80, U 81, U 82, U 83, U 84, U 85, U 86, U 87, U 88, U 89, U 90, U 91, U 92, U 93, U 94, U 95, U 96, U 97, U 98, U 99, U 100, U 101, U 102, U 103, U 104, U 105, U 106, U 107, U 108, U 109, U 110, U 111, U 112, U 113, U 114, U 115, U 116, U 117, U 118, U 119, U 120, U 121, U 122, U 123, U 124, U 125, U 126, U 127, U 128, U 129, U 130, U 131, U 132, U 133, U 134, U 135, U 136, U 137, U 138, U 139, U 140, U 141, U 142, U 143, U 144, U 145, U 146, U 147, U 148, U 149, U 150, U 151, U 152, U 153, U 154, U 155, U 156, U 157, U 158, U 159, U 160, U 161, U 162, U 163, U 164, U 165, U 166, U 167, U 168, U 169, U 170, U 171, U 172, U 173, U 174, U 175, U 176, U 177, U 178, U 179, U 180, U 181, U 182, U 183, U 184, U 185, U 186, U 187, U 188, U 189, U 190, U 191, U 192, U 193, U 194, U 195, U 196, U 197, U 198, U 199, U 200, U 201, U 202, U 203, U 204, U 205, U 206, U 207, U 208, U 209, U 210, U 211, U 212, U 213, U 214, U 215, U 216, U 217, U 218, U 219, U 220, U 221, U 222, U 223, U 224, U 225, U 226, U 227, U 228, U 229, U 230, U 231, U 232, U 233, U 234, U 235, U 236, U 237, U 238, U 239, U 240, U 241, U 242, U 243, U 244, U 245, U 246, U 247, U 248, U 249, U 250, U 251, U 252, U 253, U 254, U 255, U 256, U 257, U 258, U 259, U 260, U 261, U 262, U 263, U 264, U 265, U 266, U 267, U 268, U 269, U 270, U 271, U 272, U 273, U 274, U 275, U 276, U 277, U 278, U 279, U 280, U 281, U 282, U 283, U 284, U 285, U 286, U 287, U 288, U 289, U 290, U 291, U 292, U 293, U 294, U 295, U 296, U 297, U 298, U 299, U 300, U 301, U 302, U 303, U 304, U 305, U 306, U 307, U 308, U 309, U 310, U 311, U 312], defers := Ds.map Mk.mark } wr := by
  obtain ⟨rfl, hgz, hcz, hi, hi60, htop⟩ := hA
  refine wp_calm ?_
  conv => arg 2; whnf
  have hS0 : S7 ga oa (.int .u8 v) bf fr bl leave gt At nt ct gz oz i x wr.drew := ⟨by have := hP.pf.cell 0; simpa using this, by have := hP.pl.cell 0; simpa using this, by have := hgt.cell 0; simpa using this, (hP.bel.cell (p := ⟨gz, oz + i, none⟩) hgz).trans hcz, hz⟩
  obtain ⟨i0, hi0, _⟩ := info_parts (show (Try.prog.info? 3).map (fun i => (i.zero, i.size, i.bytes)) = some (some (.int .i64 0), 1, 8) by kernel_rfl)
  have e15 := and_15 leave
  have e7 := and_7 (x / 1024)
  have hmin : (min nk m : Nat) ≤ ck := by omega
  have e16 := run_minN (P := Try.prog)
  have esl := fun (w : World) => run_slice_to (P := Try.prog) Try.underlying22 hi0 Ak nk ck (min nk m) hmin w
  have hcut : keys.take m = keys.take (min nk m) := by
    have hl : keys.length = nk := by have := HK.1; rwa [iv_length] at this
    rw [← hl]
    by_cases h : keys.length ≤ m
    · rw [List.take_of_length_le h, Nat.min_eq_left h, List.take_length]
    · rw [Nat.min_eq_right (by omega)]
  go_upto_region 58 with fail
  refine wp_region_held_drew (S := S7 ga oa (.int .u8 v) bf fr bl leave gt At nt ct gz oz i x) (by kernel_rfl) hS0 (fun _ => ?_)
  have hP := Lib.hid (hP.keep (Below.refl _ _).drew)
  have hMk := Lib.hid (hMk.below (Below.refl _ _).drew)
  have HK := Lib.hid HK.drew.fit
  have HM := Lib.hid HM.drew.fit
  have HT := Lib.hid HT.drew.fit
  clear hz
  have HWH := Lib.hid (fun (u : World) (hu : u = wr.drew) => Mw.whole_any u bf bh B (i + 1) D fr ss (by subst hu; have := hP.out.pf.cell 0; simpa using this) (by subst hu; have := hP.out.ph.cell 0; simpa using this) (by subst hu; exact hP.out.map) hP.out.tie (by have := hP.out.len; unfold WI.Fit; omega))
  clear hgt
  generalize wr.drew = u at *
  have hS := Lib.hid hS0
  clear hS0 hcz
  refine wpAnyH_take (i := 0) (v := .bool true) rfl (by kernel_rfl) (by kernel_rfl) (by kernel_rfl) (fun _ _ _ h => h) (Or.inl ⟨by kernel_rfl, fun w h => by go_simp⟩) hS.out ?_
  refine wpAnyH_take (i := 1) (v := .bool true) rfl (by kernel_rfl) (by kernel_rfl) (by kernel_rfl) (fun _ _ _ h => h) (Or.inl ⟨by kernel_rfl, fun w h => by go_simp⟩) hS.out ?_
  refine wpAnyH_take (i := 2) (v := .bool false) rfl (by kernel_rfl) (by kernel_rfl) (by kernel_rfl) (fun _ _ _ h => h) (Or.inl ⟨by kernel_rfl, fun w h => by go_simp⟩) hS.out ?_
  refine wpAnyH_take (i := 3) (v := .bool false) rfl (by kernel_rfl) (by kernel_rfl) (by kernel_rfl) (fun _ _ _ h => h) (Or.inl ⟨by kernel_rfl, fun w h => by go_simp⟩) hS.out ?_
  refine wpAnyH_take (i := 4) (v := .bool true) rfl (by kernel_rfl) (by kernel_rfl) (by kernel_rfl) (fun _ _ _ h => h) (Or.inl ⟨by kernel_rfl, fun w h => by go_simp⟩) hS.out ?_
  refine wpAnyH_take (i := 5) (v := .bool true) rfl (by kernel_rfl) (by kernel_rfl) (by kernel_rfl) (fun _ _ _ h => h) (Or.inl ⟨by kernel_rfl, fun w h => by go_simp⟩) hS.out ?_
  refine wpAnyH_take (i := 6) (v := .int .i64 v) rfl (by kernel_rfl) (by kernel_rfl) (by kernel_rfl) (fun _ _ _ h => h) (Or.inl ⟨by kernel_rfl, fun w h => by go_simp⟩) hS.out ?_
  refine wpAnyH_take (i := 7) (v := .int .i64 v) rfl (by kernel_rfl) (by kernel_rfl) (by kernel_rfl) (fun _ _ _ h => h) (Or.inl ⟨by kernel_rfl, fun w h => by go_simp⟩) hS.out ?_
  refine wpAnyH_take (i := 8) (v := .bool false) rfl (by kernel_rfl) (by kernel_rfl) (by kernel_rfl) (fun _ _ _ h => h) (Or.inl ⟨by kernel_rfl, fun w h => by go_simp⟩) hS.out ?_
  refine wpAnyH_take (i := 9) (v := .bool false) rfl (by kernel_rfl) (by kernel_rfl) (by kernel_rfl) (fun _ _ _ h => h) (Or.inl ⟨by kernel_rfl, fun w h => by go_simp⟩) hS.out ?_
  refine wpAnyH_take (i := 10) (v := .bool false) rfl (by kernel_rfl) (by kernel_rfl) (by kernel_rfl) (fun _ _ _ h => h) (Or.inl ⟨by kernel_rfl, fun w h => by go_simp⟩) hS.out ?_
  refine wpAnyH_take (i := 11) (v := .bool false) rfl (by kernel_rfl) (by kernel_rfl) (by kernel_rfl) (fun _ _ _ h => h) (Or.inl ⟨by kernel_rfl, fun w h => by go_simp⟩) hS.out ?_
  refine wpAnyH_take (i := 12) (v := .bool true) rfl (by kernel_rfl) (by kernel_rfl) (by kernel_rfl) (fun _ _ _ h => h) (Or.inl ⟨by kernel_rfl, fun w h => by go_simp⟩) hS.out ?_
  refine wpAnyH_take (i := 13) (v := .bool true) rfl (by kernel_rfl) (by kernel_rfl) (by kernel_rfl) (fun _ _ _ h => h) (Or.inl ⟨by kernel_rfl, fun w h => by go_simp⟩) hS.out ?_
  refine wpAnyH_take (i := 14) (v := .bool false) rfl (by kernel_rfl) (by kernel_rfl) (by kernel_rfl) (fun _ _ _ h => h) (Or.inl ⟨by kernel_rfl, fun w h => by go_simp⟩) hS.out ?_
  refine wpAnyH_take (i := 15) (v := .bool false) rfl (by kernel_rfl) (by kernel_rfl) (by kernel_rfl) (fun _ _ _ h => h) (Or.inl ⟨by kernel_rfl, fun w h => by go_simp⟩) hS.out ?_
  refine wpAnyH_take (i := 16) (v := .bool false) rfl (by kernel_rfl) (by kernel_rfl) (by kernel_rfl) (fun _ _ _ h => h) (Or.inl ⟨by kernel_rfl, fun w h => by go_simp⟩) hS.out ?_
  refine wpAnyH_take (i := 17) (v := .bool true) rfl (by kernel_rfl) (by kernel_rfl) (by kernel_rfl) (fun _ _ _ h => h) (Or.inl ⟨by kernel_rfl, fun w h => by go_simp⟩) hS.out ?_
  refine wpAnyH_take (i := 18) (v := .bool true) rfl (by kernel_rfl) (by kernel_rfl) (by kernel_rfl) (fun _ _ _ h => h) (Or.inl ⟨by kernel_rfl, fun w h => by go_simp⟩) hS.out ?_
  refine wpAnyH_take (i := 19) (v := .slice (some ⟨ga, oa, none⟩) 1 cz) rfl (by kernel_rfl) (by kernel_rfl) (by kernel_rfl) (fun _ _ _ h => h) (Or.inl ⟨by kernel_rfl, fun w h => by go_simp⟩) hS.out ?_
  refine wpAnyH_take (i := 20) (v := .int .i64 1) rfl (by kernel_rfl) (by kernel_rfl) (by kernel_rfl) (fun _ _ _ h => h) (Or.inl ⟨by kernel_rfl, fun w h => by go_simp⟩) hS.out ?_
  refine wpAnyH_take (i := 21) (v := .bool false) rfl (by kernel_rfl) (by kernel_rfl) (by kernel_rfl) (fun _ _ _ h => h) (Or.inl ⟨by kernel_rfl, fun w h => by go_simp⟩) hS.out ?_
  refine wpAnyH_take (i := 22) (v := .bool false) rfl (by kernel_rfl) (by kernel_rfl) (by kernel_rfl) (fun _ _ _ h => h) (Or.inl ⟨by kernel_rfl, fun w h => by go_simp⟩) hS.out ?_
  refine wpAnyH_take (i := 23) (v := .slice (some ⟨ga, oa, none⟩) 1 cz) rfl (by kernel_rfl) (by kernel_rfl) (by kernel_rfl) (fun _ _ _ h => h) (Or.inl ⟨by kernel_rfl, fun w h => by go_simp⟩) hS.out ?_
  refine wpAnyH_take (i := 24) (v := .pointer (some ⟨ga, oa, none⟩)) rfl (by kernel_rfl) (by kernel_rfl) (by kernel_rfl) (fun _ _ _ h => h) (Or.inl ⟨by kernel_rfl, fun w h => by go_simp⟩) hS.out ?_
  refine wpAnyH_take (i := 25) (v := .int .u8 v) rfl (by kernel_rfl) (by kernel_rfl) (by kernel_rfl) (fun _ _ _ h => h) (Or.inl ⟨by kernel_rfl, fun w h => by obtain ⟨h1, h2, h3, h4, h5⟩ := h; go_simp⟩) hS.out ?_
  refine wpAnyH_take (i := 26) (v := .int .i64 v) rfl (by kernel_rfl) (by kernel_rfl) (by kernel_rfl) (fun _ _ _ h => h) (Or.inl ⟨by kernel_rfl, fun w h => by go_simp⟩) hS.out ?_
  refine wpAnyH_take (i := 27) (v := .int .u8 v) rfl (by kernel_rfl) (by kernel_rfl) (by kernel_rfl) (fun _ _ _ h => h) (Or.inl ⟨by kernel_rfl, fun w h => by go_simp; rw [IntKind.wrap_u8']; omega⟩) hS.out ?_
  refine wpAnyH_take (i := 28) (v := .bool false) rfl (by kernel_rfl) (by kernel_rfl) (by kernel_rfl) (fun _ _ _ h => h) (Or.inl ⟨by kernel_rfl, fun w h => by go_simp⟩) hS.out ?_
  refine wpAnyH_take (i := 29) (v := .bool false) rfl (by kernel_rfl) (by kernel_rfl) (by kernel_rfl) (fun _ _ _ h => h) (Or.inl ⟨by kernel_rfl, fun w h => by go_simp⟩) hS.out ?_
  refine wpAnyH_take (i := 30) (v := .bool false) rfl (by kernel_rfl) (by kernel_rfl) (by kernel_rfl) (fun _ _ _ h => h) (Or.inl ⟨by kernel_rfl, fun w h => by go_simp⟩) hS.out ?_
  refine wpAnyH_take (i := 31) (v := .bool false) rfl (by kernel_rfl) (by kernel_rfl) (by kernel_rfl) (fun _ _ _ h => h) (Or.inl ⟨by kernel_rfl, fun w h => by go_simp⟩) hS.out ?_
  refine wpAnyH_take (i := 32) (v := .bool false) rfl (by kernel_rfl) (by kernel_rfl) (by kernel_rfl) (fun _ _ _ h => h) (Or.inl ⟨by kernel_rfl, fun w h => by go_simp⟩) hS.out ?_
  refine wpAnyH_take (i := 33) (v := .pointer (some ⟨p, 0, none⟩)) rfl (by kernel_rfl) (by kernel_rfl) (by kernel_rfl) (fun _ _ _ h => h) (Or.inl ⟨by kernel_rfl, fun w h => by go_simp⟩) hS.out ?_
  refine wpAnyH_take (i := 35) (v := .int .i64 (fr : Int)) rfl (by kernel_rfl) (by kernel_rfl) (by kernel_rfl) (fun _ _ _ h => h) (Or.inl ⟨by kernel_rfl, fun w h => by obtain ⟨h1, h2, h3, h4, h5⟩ := h; go_simp⟩) hS.out ?_
  refine wpAnyH_ready (rs := [34]) (by kernel_rfl) (by simp) ?_
  refine AllReadyH.cons rfl (fun K hK => ?_) AllReadyH.nil
  go_simp
  refine (WI.from_any _ _ _ _ _ _ hP.out.win).mono ?_
  rintro e u' ⟨rfl, hw⟩
  subst hw
  go_simp
  refine hK.out _ _ hS.out (fun _ => ?_)
  clear hK K
  refine wpAnyH_take (i := 36) (v := .bool false) rfl (by kernel_rfl) (by kernel_rfl) (by kernel_rfl) (fun _ _ _ h => h) (Or.inl ⟨by kernel_rfl, fun w h => by go_simp⟩) hS.out ?_
  refine wpAnyH_take (i := 37) (v := .bool false) rfl (by kernel_rfl) (by kernel_rfl) (by kernel_rfl) (fun _ _ _ h => h) (Or.inl ⟨by kernel_rfl, fun w h => by go_simp⟩) hS.out ?_
  refine wpAnyH_take (i := 38) (v := .bool false) rfl (by kernel_rfl) (by kernel_rfl) (by kernel_rfl) (fun _ _ _ h => h) (Or.inl ⟨by kernel_rfl, fun w h => by go_simp⟩) hS.out ?_
  refine wpAnyH_take (i := 39) (v := .pointer (some ⟨p, 0, none⟩)) rfl (by kernel_rfl) (by kernel_rfl) (by kernel_rfl) (fun _ _ _ h => h) (Or.inl ⟨by kernel_rfl, fun w h => by go_simp⟩) hS.out ?_
  refine wpAnyH_take (i := 41) (v := .func (.func 6) #[] #[.pointer (some ⟨bf, 0, none⟩), .pointer (some ⟨bh, 0, none⟩)]) rfl (by kernel_rfl) (by kernel_rfl) (by kernel_rfl) (fun _ _ _ h => h) (Or.inl ⟨by kernel_rfl, fun w h => by go_simp⟩) hS.out ?_
  refine wpAnyH_ready (rs := [40]) (by kernel_rfl) (by simp) ?_
  refine AllReadyH.cons rfl (fun K hK => ?_) AllReadyH.nil
  go_simp
  refine (WI.whole_any _ _ _ _ _ _ hP.out.win).mono ?_
  rintro e u' ⟨rfl, hw⟩
  subst hw
  go_simp
  refine hK.out _ _ hS.out (fun _ => ?_)
  clear hK K
  refine wpAnyH_ready (rs := [42]) (by kernel_rfl) (by simp) ?_
  refine AllReadyH.cons rfl (fun K hK => ?_) AllReadyH.nil
  go_simp
  refine (HWH.out _ rfl).mono ?_
  rintro e u' ⟨rfl, hw⟩
  have hw := hw.symm
  subst hw
  go_simp
  refine hK.out _ _ hS.out (fun _ => ?_)
  clear hK K
  refine wpAnyH_take (i := 43) (v := .bool false) rfl (by kernel_rfl) (by kernel_rfl) (by kernel_rfl) (fun _ _ _ h => h) (Or.inl ⟨by kernel_rfl, fun w h => by go_simp⟩) hS.out ?_
  refine wpAnyH_take (i := 44) (v := .bool false) rfl (by kernel_rfl) (by kernel_rfl) (by kernel_rfl) (fun _ _ _ h => h) (Or.inl ⟨by kernel_rfl, fun w h => by go_simp⟩) hS.out ?_
  refine wpAnyH_take (i := 45) (v := .bool false) rfl (by kernel_rfl) (by kernel_rfl) (by kernel_rfl) (fun _ _ _ h => h) (Or.inl ⟨by kernel_rfl, fun w h => by go_simp⟩) hS.out ?_
  refine wpAnyH_take (i := 46) (v := .pointer (some ⟨p, 0, none⟩)) rfl (by kernel_rfl) (by kernel_rfl) (by kernel_rfl) (fun _ _ _ h => h) (Or.inl ⟨by kernel_rfl, fun w h => by go_simp⟩) hS.out ?_
  refine wpAnyH_take (i := 48) (v := .int .i64 ((fr : Int) + (ss.length : Int))) rfl (by kernel_rfl) (by kernel_rfl) (by kernel_rfl) (fun _ _ _ h => h) (Or.inl ⟨by kernel_rfl, fun w h => by go_simp⟩) hS.out ?_
  refine wpAnyH_ready (rs := [47]) (by kernel_rfl) (by simp) ?_
  refine AllReadyH.cons rfl (fun K hK => ?_) AllReadyH.nil
  go_simp
  refine (WI.top_any _ _ _ _ _ _ hP.out.win).mono ?_
  rintro e u2 ⟨rfl, nd, rfl⟩
  have hS := Lib.hid (hS.out.below (below_drewN (Below.refl _ _) nd))
  have HT := Lib.hid (HT.out.below' (below_drewN (Below.refl _ _) nd))
  have HK := Lib.hid (HK.out.below' (below_drewN (Below.refl _ _) nd))
  have HM := Lib.hid (HM.out.below' (below_drewN (Below.refl _ _) nd))
  have hP := Lib.hid (hP.out.keep (below_drewN (Below.refl _ _) nd))
  have hMk := Lib.hid (hMk.out.below (below_drewN (Below.refl _ _) nd))
  generalize u.drewN nd = u2 at *
  go_simp
  refine hK.out _ _ hS.out (fun _ => ?_)
  clear hK K
  refine wpAnyH_take (i := 49) (v := .bool false) rfl (by kernel_rfl) (by kernel_rfl) (by kernel_rfl) (fun _ _ _ h => h) (Or.inl ⟨by kernel_rfl, fun w h => by go_simp⟩) hS.out ?_
  refine wpAnyH_take (i := 50) (v := .bool false) rfl (by kernel_rfl) (by kernel_rfl) (by kernel_rfl) (fun _ _ _ h => h) (Or.inl ⟨by kernel_rfl, fun w h => by go_simp⟩) hS.out ?_
  refine wpAnyH_take (i := 51) (v := .bool false) rfl (by kernel_rfl) (by kernel_rfl) (by kernel_rfl) (fun _ _ _ h => h) (Or.inl ⟨by kernel_rfl, fun w h => by go_simp⟩) hS.out ?_
  refine wpAnyH_take (i := 52) (v := .slice At nt ct) rfl (by kernel_rfl) (by kernel_rfl) (by kernel_rfl) (fun _ _ _ h => h) (Or.inl ⟨by kernel_rfl, fun w h => by obtain ⟨h1, h2, h3, h4, h5⟩ := h; go_simp⟩) hS.out ?_
  refine wpAnyH_take (i := 53) (v := .slice Ak nk ck) rfl (by kernel_rfl) (by kernel_rfl) (by kernel_rfl) (fun _ _ _ h => h) (Or.inl ⟨by kernel_rfl, fun w h => by go_simp⟩) hS.out ?_
  refine wpAnyH_take (i := 54) (v := .slice Ak nk ck) rfl (by kernel_rfl) (by kernel_rfl) (by kernel_rfl) (fun _ _ _ h => h) (Or.inl ⟨by kernel_rfl, fun w h => by go_simp⟩) hS.out ?_
  refine wpAnyH_take (i := 55) (v := .int .i64 (nk : Int)) rfl (by kernel_rfl) (by kernel_rfl) (by kernel_rfl) (fun _ _ _ h => h) (Or.inl ⟨by kernel_rfl, fun w h => by go_simp⟩) hS.out ?_
  refine wpAnyH_take (i := 56) (v := .int .i64 leave) rfl (by kernel_rfl) (by kernel_rfl) (by kernel_rfl) (fun _ _ _ h => h) (Or.inl ⟨by kernel_rfl, fun w h => by obtain ⟨h1, h2, h3, h4, h5⟩ := h; go_simp⟩) hS.out ?_
  refine wpAnyH_take (i := 57) (v := .int .i64 (leave % 16)) rfl (by kernel_rfl) (by kernel_rfl) (by kernel_rfl) (fun _ _ _ h => h) (Or.inl ⟨by kernel_rfl, fun w h => by go_simp⟩) hS.out ?_
  refine wpAnyH_take (i := 58) (v := .int .i64 (m : Int)) rfl (by kernel_rfl) (by kernel_rfl) (by kernel_rfl) (fun _ _ _ h => h) (Or.inl ⟨by kernel_rfl, fun w h => by go_simp; rw [← hm]; exact IntWalk.i64_in _ (by omega)⟩) hS.out ?_
  refine wpAnyH_take (i := 59) (v := .int .i64 ((min nk m : Nat) : Int)) rfl (by kernel_rfl) (by kernel_rfl) (by kernel_rfl) (fun _ _ _ h => h) (Or.inl ⟨by kernel_rfl, fun w h => by go_simp⟩) hS.out ?_
  refine wpAnyH_take (i := 60) (v := .slice Ak (min nk m) ck) rfl (by kernel_rfl) (by kernel_rfl) (by kernel_rfl) (fun _ _ _ h => h) (Or.inl ⟨by kernel_rfl, fun w h => by go_simp⟩) hS.out ?_
  refine wpAnyH_ready (rs := [61]) (by kernel_rfl) (by simp) ?_
  refine AllReadyH.cons rfl (fun K hK => ?_) AllReadyH.nil
  go_simp
  refine (same_any _ _ _ _ _ _ _ _ _ _ _ HT.out (HK.out.cut (min nk m) (by omega)) (by unfold maxLen; omega) (by unfold maxLen; omega)).mono ?_
  rintro e u3 ⟨rfl, nd3, rfl⟩
  rw [decide_eq_true (by rw [htold]; exact hcut)]
  have hS := Lib.hid (hS.out.below (below_drewN (Below.refl _ _) nd3))
  have HM := Lib.hid (HM.out.below' (below_drewN (Below.refl _ _) nd3))
  have hP := Lib.hid (hP.out.keep (below_drewN (Below.refl _ _) nd3))
  have hMk := Lib.hid (hMk.out.below (below_drewN (Below.refl _ _) nd3))
  generalize u2.drewN nd3 = u3 at *
  go_simp
  refine hK.out _ _ hS.out (fun _ => ?_)
  clear hK K
  refine wpAnyH_take (i := 62) (v := .bool false) rfl (by kernel_rfl) (by kernel_rfl) (by kernel_rfl) (fun _ _ _ h => h) (Or.inl ⟨by kernel_rfl, fun w h => by go_simp⟩) hS.out ?_
  refine wpAnyH_take (i := 63) (v := .bool false) rfl (by kernel_rfl) (by kernel_rfl) (by kernel_rfl) (fun _ _ _ h => h) (Or.inl ⟨by kernel_rfl, fun w h => by go_simp⟩) hS.out ?_
  refine wpAnyH_take (i := 64) (v := .bool false) rfl (by kernel_rfl) (by kernel_rfl) (by kernel_rfl) (fun _ _ _ h => h) (Or.inl ⟨by kernel_rfl, fun w h => by go_simp⟩) hS.out ?_
  refine wpAnyH_take (i := 65) (v := .pointer (some ⟨p, 0, none⟩)) rfl (by kernel_rfl) (by kernel_rfl) (by kernel_rfl) (fun _ _ _ h => h) (Or.inl ⟨by kernel_rfl, fun w h => by go_simp⟩) hS.out ?_
  refine wpAnyH_take (i := 66) (v := .slice (some ⟨gz, oz, none⟩) len0 cap0) rfl (by kernel_rfl) (by kernel_rfl) (by kernel_rfl) (fun _ _ _ h => h) (Or.inl ⟨by kernel_rfl, fun w h => by go_simp⟩) hS.out ?_
  refine wpAnyH_take (i := 67) (v := .int .i64 (i : Int)) rfl (by kernel_rfl) (by kernel_rfl) (by kernel_rfl) (fun _ _ _ h => h) (Or.inl ⟨by kernel_rfl, fun w h => by go_simp⟩) hS.out ?_
  refine wpAnyH_take (i := 68) (v := .pointer (some ⟨gz, oz + i, none⟩)) rfl (by kernel_rfl) (by kernel_rfl) (by kernel_rfl) (fun _ _ _ h => h) (Or.inl ⟨by kernel_rfl, fun w h => by go_simp⟩) hS.out ?_
  refine wpAnyH_take (i := 69) (v := .int .i64 x) rfl (by kernel_rfl) (by kernel_rfl) (by kernel_rfl) (fun _ _ _ h => h) (Or.inl ⟨by kernel_rfl, fun w h => by obtain ⟨h1, h2, h3, h4, h5⟩ := h; go_simp⟩) hS.out ?_
  refine wpAnyH_take (i := 70) (v := .int .i64 (x / 1024)) rfl (by kernel_rfl) (by kernel_rfl) (by kernel_rfl) (fun _ _ _ h => h) (Or.inl ⟨by kernel_rfl, fun w h => by go_simp⟩) hS.out ?_
  refine wpAnyH_take (i := 71) (v := .int .i64 (x / 1024 % 8)) rfl (by kernel_rfl) (by kernel_rfl) (by kernel_rfl) (fun _ _ _ h => h) (Or.inl ⟨by kernel_rfl, fun w h => by go_simp⟩) hS.out ?_
  refine wpAnyH_take (i := 73) (v := .slice Am nm cm) rfl (by kernel_rfl) (by kernel_rfl) (by kernel_rfl) (fun _ _ _ h => h) (Or.inl ⟨by kernel_rfl, fun w h => by go_simp⟩) hS.out ?_
  refine wpAnyH_ready (rs := [72]) (by kernel_rfl) (by simp) ?_
  refine AllReadyH.cons rfl (fun K hK => ?_) AllReadyH.nil
  go_simp
  refine (WI.missing_any _ _ _ _ _ _ hP.out.win rfl hP.out.bel.size _).mono ?_
  rintro e u4 ⟨Aq, nq, cq, rfl, hoq, hb4⟩
  have hS := Lib.hid (hS.out.below hb4)
  have HM := Lib.hid (HM.out.below' hb4)
  have hP := Lib.hid (hP.out.keep hb4)
  have hMk := Lib.hid (hMk.out.below hb4)
  have HQ := Lib.hid (Rd.own_ hoq)
  have HQL := Lib.hid (own_cap hoq)
  clear hoq hb4
  go_simp
  refine hK.out _ _ hS.out (fun _ => ?_)
  clear hK K
  refine wpAnyH_ready (rs := [74]) (by kernel_rfl) (by simp) ?_
  refine AllReadyH.cons rfl (fun K hK => ?_) AllReadyH.nil
  go_simp
  refine (same_any _ _ _ _ _ _ _ _ _ _ _ HQ.out HM.out (by have := HQL.out; omega) (by unfold maxLen; omega)).mono ?_
  rintro e u5 ⟨rfl, nd5, rfl⟩
  rw [decide_eq_true hmiss]
  have hS := Lib.hid (hS.out.below (below_drewN (Below.refl _ _) nd5))
  have hP := Lib.hid (hP.out.keep (below_drewN (Below.refl _ _) nd5))
  have hMk := Lib.hid (hMk.out.below (below_drewN (Below.refl _ _) nd5))
  generalize u4.drewN nd5 = u5 at *
  go_simp
  refine hK.out _ _ hS.out (fun _ => ?_)
  clear hK K
  refine wpAnyH_take (i := 75) (v := .bool false) rfl (by kernel_rfl) (by kernel_rfl) (by kernel_rfl) (fun _ _ _ h => h) (Or.inl ⟨by kernel_rfl, fun w h => by go_simp⟩) hS.out ?_
  refine wpAnyH_take (i := 76) (v := .bool false) rfl (by kernel_rfl) (by kernel_rfl) (by kernel_rfl) (fun _ _ _ h => h) (Or.inl ⟨by kernel_rfl, fun w h => by go_simp⟩) hS.out ?_
  refine wpAnyH_done (by kernel_rfl) ?_ _
  go_wp2_with fail
  show Q .normal _ _
  exact hQ _ _ (FinI.mk _ Ds fr ss tt D hP.out hMk.out rfl)
end Py
end Go.Proofs.Yteafbljdlcbckaa
