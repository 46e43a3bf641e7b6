/- BookSameDone -/
import Derived.Test.YtaknfmionkkdjaaFM04
import Derived.Test.YtaknfmionkkdjaaFM36
import Derived.Test.YtaknfmionkkdjaaFM46
import Derived.Test.YtaknfmionkkdjaaFM50
import Derived.Deep.CutBlock
import Derived.Deep.DeepCutAuto
import Derived.Deep.RegionLaw
namespace Go.Proofs.Ytaknfmionkkdjaa
open Go.RowKit
set_option linter.unusedVariables false
def dstSD (i : Nat) : Nat := ([17, 18, 19, 20, 21, 22, 23, 24, 25, 26, 27, 28, 29, 30, 31, 32, 33, 34, 35, 36, 37, 38, 39, 40, 41, 42, 43, 44, 45, 46, 47, 48, 49, 50, 51, 52, 53, 54, 55] : List Nat).getD i 0
def depsSD (i : Nat) : List Nat := ([[], [], [0, 1], [2], [3], [], [], [5, 6], [7], [8], [4, 9], [10], [11], [11], [12, 13, 11], [14, 11], [15, 11], [11], [11], [17, 18, 11], [19, 11], [20, 11], [16, 21, 11], [22, 11], [11, 23], [24], [25], [25], [26, 27, 25], [28, 25], [29, 25], [25], [25], [31, 32, 25], [33, 25], [34, 25], [30, 35, 25], [36, 25], [25, 37]] : List (List Nat)).getD i []
def FrSD (gb ob gc oc : Nat) (n cx cy : Nat) (j : Nat) (a1 a2 : CA) (A1 A2 : Option Addr) (c1 c2 : Nat) (d : Bk.Dn) (a : Act) : Prop := a.eval (.tmp 0) = .slice (some ⟨gb, ob, none⟩) n cx ∧ a.eval (.tmp 1) = .slice (some ⟨gc, oc, none⟩) n cy ∧ a.eval (.tmp 5) = .int .i64 (j : Int)
def kindsSD (gb ob gc oc : Nat) (n cx cy : Nat) (j : Nat) (a1 a2 : CA) (A1 A2 : Option Addr) (c1 c2 : Nat) (d : Bk.Dn) : List KM := [.eq (.slice (some ⟨gb, ob, none⟩) n cx), .eq (.int .i64 (j : Int)), .eq (.pointer (some ⟨gb, ob + j * 11, none⟩)), .eq (.pointer (some ⟨gb, ob + j * 11, none⟩)), .eq (.int .i64 d.i), .eq (.slice (some ⟨gc, oc, none⟩) n cy), .eq (.int .i64 (j : Int)), .eq (.pointer (some ⟨gc, oc + j * 11, none⟩)), .eq (.pointer (some ⟨gc, oc + j * 11, none⟩)), .eq (.int .i64 d.i), .eq (.bool false), .eq (.bool false), .eq (.slice (some ⟨gb, ob, none⟩) n cx), .eq (.int .i64 (j : Int)), .eq (.pointer (some ⟨gb, ob + j * 11, none⟩)), .eq (.pointer (some ⟨gb, ob + j * 11 + 1, none⟩)), .eq (.agg #[.int .i64 d.e.s, .int .i64 d.e.q, .int .i64 d.e.c.kind, .int .i64 d.e.c.who, .slice a1.Ak d.e.c.key.length a1.ck, .slice a1.Av d.e.c.val.length a1.cv, .slice a1.Ao d.e.c.old.length a1.co]), .eq (.slice (some ⟨gc, oc, none⟩) n cy), .eq (.int .i64 (j : Int)), .eq (.pointer (some ⟨gc, oc + j * 11, none⟩)), .eq (.pointer (some ⟨gc, oc + j * 11 + 1, none⟩)), .eq (.agg #[.int .i64 d.e.s, .int .i64 d.e.q, .int .i64 d.e.c.kind, .int .i64 d.e.c.who, .slice a2.Ak d.e.c.key.length a2.ck, .slice a2.Av d.e.c.val.length a2.cv, .slice a2.Ao d.e.c.old.length a2.co]), .eq (.bool true), .eq (.bool false), .eq (.bool false), .eq (.bool false), .eq (.slice (some ⟨gb, ob, none⟩) n cx), .eq (.int .i64 (j : Int)), .eq (.pointer (some ⟨gb, ob + j * 11, none⟩)), .eq (.pointer (some ⟨gb, ob + j * 11 + 8, none⟩)), .eq (.agg #[.int .i64 d.r.e, .slice A1 d.r.v.length c1, .int .i64 d.r.n]), .eq (.slice (some ⟨gc, oc, none⟩) n cy), .eq (.int .i64 (j : Int)), .eq (.pointer (some ⟨gc, oc + j * 11, none⟩)), .eq (.pointer (some ⟨gc, oc + j * 11 + 8, none⟩)), .eq (.agg #[.int .i64 d.r.e, .slice A2 d.r.v.length c2, .int .i64 d.r.n]), .eq (.bool true), .eq (.bool false), .eq (.bool false)]
def frameSD (gb ob gc oc : Nat) (n cx cy : Nat) (j : Nat) (a1 a2 : CA) (A1 A2 : Option Addr) (c1 c2 : Nat) (d : Bk.Dn) (x2 x3 x4 x6 x7 x8 x9 x10 x11 x12 x13 x14 x15 x16 : Value) (U : Nat → Value) : Act := { tmps := List.toArray (.slice (some ⟨gb, ob, none⟩) n cx :: .slice (some ⟨gc, oc, none⟩) n cy :: x2 :: x3 :: x4 :: .int .i64 (j : Int) :: x6 :: x7 :: x8 :: x9 :: x10 :: x11 :: x12 :: x13 :: x14 :: x15 :: x16 :: U 17 :: U 18 :: U 19 :: U 20 :: U 21 :: U 22 :: U 23 :: U 24 :: U 25 :: U 26 :: U 27 :: U 28 :: U 29 :: U 30 :: U 31 :: U 32 :: U 33 :: U 34 :: U 35 :: U 36 :: U 37 :: U 38 :: U 39 :: U 40 :: U 41 :: U 42 :: U 43 :: U 44 :: U 45 :: U 46 :: U 47 :: U 48 :: U 49 :: U 50 :: U 51 :: U 52 :: U 53 :: U 54 :: U 55 :: []), defers := [] }
set_option maxHeartbeats 16000000 in
set_option maxRecDepth 100000 in
theorem refSameDone (w : World) {A A' : Option Addr} {n cx cy : Nat} {ds : List Bk.Dn} (hn : n ≤ 1000000) (hf : ∀ d ∈ ds, d.e.c.Fits ∧ ∀ x ∈ d.r.v, x < 256) (h : RdD9 w A n ds) (h' : RdD9 w A' n ds) :
    Calls Try.prog 15 #[.slice A n cx, .slice A' n cy] w fun e w' => e = .returned (.bool true) ∧ Below w.heap.size w w' := by
  have H := Lib.hid h
  have H' := Lib.hid h'
  have HF := Lib.hid hf
  have hn2 : (n : Int) ≤ 1000000 := by omega
  have HL := Lib.hid h.length
  clear h h' hf
  go_enter Try.func15, Try.ntmps15
  go_wp2_with fail
  go_loopw [5] (fun s5 wr => ∃ j : Nat, j ≤ n ∧ s5 = .int .i64 (j : Int) ∧ Hid (Below w.heap.size w wr)) (fun s5 _ => n - (intOf s5).toNat)
  case atStart => exact ⟨0, Nat.zero_le _, rfl, Lib.hid (Below.refl _ _)⟩
  case round =>
    obtain ⟨j, hj, rfl, HB⟩ := hrel
    have hwj : IntKind.i64.wrap ((j : Int) + 1) = (j : Int) + 1 := IntWalk.i64_in _ (by omega)
    by_cases hlt : j < n
    · have hji : (j : Int) < (n : Int) := by omega
      have hj0 : (0 : Int) ≤ (j : Int) := by omega
      obtain ⟨gb, ob, d, a1, A1, c1, rfl, hd, hx, hxc, hxv⟩ := (H.out.below HB.out).at hlt
      obtain ⟨gc, oc, d', a2, A2, c2, rfl, hd', hy, hyc, hyv⟩ := (H'.out.below HB.out).at hlt
      rw [hd] at hd'
      injection hd' with hd'
      subst hd'
      obtain ⟨hfe, hfv⟩ := HF.out d (List.mem_of_getElem? hd)
      have sub : ∀ (g o k : Nat) (a : CA) (A : Option Addr) (c : Nat) (cs : List Value), wr.rangeAt g (o + j * 11) (doneL a A c d) → (∀ q v, cs[q]? = some v → (doneL a A c d)[k + q]? = some v) → ∀ wx, Below wr.heap.size wr wx → wx.rangeAt g (o + j * 11 + k) cs := fun g o k a A c cs h hc wx hb q v hv => by
        have q1 := h (k + q) v (hc q v hv)
        rw [← Nat.add_assoc] at q1
        exact (Below.cell hb (p := ⟨g, o + j * 11 + k + q, none⟩) (World.block_lt_of_cell? _ _ q1)).trans q1
      have HX0 := Lib.hid (sub gb ob 0 a1 A1 c1 [.int .i64 d.i] hx (fun q v hv => by match q with | 0 => simpa [doneL] using hv | q + 1 => simp at hv))
      have HY0 := Lib.hid (sub gc oc 0 a2 A2 c2 [.int .i64 d.i] hy (fun q v hv => by match q with | 0 => simpa [doneL] using hv | q + 1 => simp at hv))
      have HX1 := Lib.hid (sub gb ob 1 a1 A1 c1 [.int .i64 d.e.s, .int .i64 d.e.q, .int .i64 d.e.c.kind, .int .i64 d.e.c.who, .slice a1.Ak d.e.c.key.length a1.ck, .slice a1.Av d.e.c.val.length a1.cv, .slice a1.Ao d.e.c.old.length a1.co] hx (fun q v hv => by match q with | 0 => simpa [doneL] using hv | 1 => simpa [doneL] using hv | 2 => simpa [doneL] using hv | 3 => simpa [doneL] using hv | 4 => simpa [doneL] using hv | 5 => simpa [doneL] using hv | 6 => simpa [doneL] using hv | q + 7 => simp at hv))
      have HY1 := Lib.hid (sub gc oc 1 a2 A2 c2 [.int .i64 d.e.s, .int .i64 d.e.q, .int .i64 d.e.c.kind, .int .i64 d.e.c.who, .slice a2.Ak d.e.c.key.length a2.ck, .slice a2.Av d.e.c.val.length a2.cv, .slice a2.Ao d.e.c.old.length a2.co] hy (fun q v hv => by match q with | 0 => simpa [doneL] using hv | 1 => simpa [doneL] using hv | 2 => simpa [doneL] using hv | 3 => simpa [doneL] using hv | 4 => simpa [doneL] using hv | 5 => simpa [doneL] using hv | 6 => simpa [doneL] using hv | q + 7 => simp at hv))
      have HX8 := Lib.hid (sub gb ob 8 a1 A1 c1 [.int .i64 d.r.e, .slice A1 d.r.v.length c1, .int .i64 d.r.n] hx (fun q v hv => by match q with | 0 => simpa [doneL] using hv | 1 => simpa [doneL] using hv | 2 => simpa [doneL] using hv | q + 3 => simp at hv))
      have HY8 := Lib.hid (sub gc oc 8 a2 A2 c2 [.int .i64 d.r.e, .slice A2 d.r.v.length c2, .int .i64 d.r.n] hy (fun q v hv => by match q with | 0 => simpa [doneL] using hv | 1 => simpa [doneL] using hv | 2 => simpa [doneL] using hv | q + 3 => simp at hv))
      have CE : Hid (∀ wx, Below wr.heap.size wr wx → Calls Try.prog 30 #[.agg #[.int .i64 d.e.s, .int .i64 d.e.q, .int .i64 d.e.c.kind, .int .i64 d.e.c.who, .slice a1.Ak d.e.c.key.length a1.ck, .slice a1.Av d.e.c.val.length a1.cv, .slice a1.Ao d.e.c.old.length a1.co], .agg #[.int .i64 d.e.s, .int .i64 d.e.q, .int .i64 d.e.c.kind, .int .i64 d.e.c.who, .slice a2.Ak d.e.c.key.length a2.ck, .slice a2.Av d.e.c.val.length a2.cv, .slice a2.Ao d.e.c.old.length a2.co]] wx fun e w' => e = .returned (.bool true) ∧ Below wx.heap.size wx w') := Lib.hid (fun wx hb => (refSameEntry_any wx hfe hfe (hxc.below hb) (hyc.below hb)).mono fun e w' h => ⟨by rw [h.1]; simp, h.2⟩)
      have CR : Hid (∀ wx, Below wr.heap.size wr wx → Calls Try.prog 31 #[.agg #[.int .i64 d.r.e, .slice A1 d.r.v.length c1, .int .i64 d.r.n], .agg #[.int .i64 d.r.e, .slice A2 d.r.v.length c2, .int .i64 d.r.n]] wx fun e w' => e = .returned (.bool true) ∧ Below wx.heap.size wx w') := Lib.hid (fun wx hb => same_is wx _ _ hfv (hxv.below hb) (hyv.below hb))
      have HJN := Lib.hid hji
      clear hd hx hy hxc hxv hyc hyv hfe hfv sub
      go_upto_region 6 with fail
      go_cut [55] from 17 to 55 (fun s55 wx => s55 = .bool false ∧ Hid (Below wr.heap.size wr wx))
      case first =>
        refine region_invB (U0 := fun n => ([u17, u18, u19, u20, u21, u22, u23, u24, u25, u26, u27, u28, u29, u30, u31, u32, u33, u34, u35, u36, u37, u38, u39, u40, u41, u42, u43, u44, u45, u46, u47, u48, u49, u50, u51, u52, u53, u54, u55] : List Value).getD (n - 17) undef) (frameSD gb ob gc oc n cx cy j a1 a2 A1 A2 c1 c2 d _ _ _ _ _ _ _ _ _ _ _ _ _ _) dstSD depsSD (fun _ => true) (VM (kindsSD gb ob gc oc n cx cy j a1 a2 A1 A2 c1 c2 d)) (FrSD gb ob gc oc n cx cy j a1 a2 A1 A2 c1 c2 d) ?hm ?hb ?inj ?dst ?deps ?want ?put ?ev ?fr (VM.ext _) (Below.refl _ _) ?hok ?done
        case hok =>
          refine all_ops (AllFrom.cons ?s0 (AllFrom.cons ?s1 (AllFrom.cons ?s2 (AllFrom.cons ?s3 (AllFrom.cons ?s4 (AllFrom.cons ?s5 (AllFrom.cons ?s6 (AllFrom.cons ?s7 (AllFrom.cons ?s8 (AllFrom.cons ?s9 (AllFrom.cons ?s10 (AllFrom.cons ?s11 (AllFrom.cons ?s12 (AllFrom.cons ?s13 (AllFrom.cons ?s14 (AllFrom.cons ?s15 (AllFrom.cons ?s16 (AllFrom.cons ?s17 (AllFrom.cons ?s18 (AllFrom.cons ?s19 (AllFrom.cons ?s20 (AllFrom.cons ?s21 (AllFrom.cons ?s22 (AllFrom.cons ?s23 (AllFrom.cons ?s24 (AllFrom.cons ?s25 (AllFrom.cons ?s26 (AllFrom.cons ?s27 (AllFrom.cons ?s28 (AllFrom.cons ?s29 (AllFrom.cons ?s30 (AllFrom.cons ?s31 (AllFrom.cons ?s32 (AllFrom.cons ?s33 (AllFrom.cons ?s34 (AllFrom.cons ?s35 (AllFrom.cons ?s36 (AllFrom.cons ?s37 (AllFrom.cons ?s38 AllFrom.nil)))))))))))))))))))))))))))))))))))))))
          case s0 =>
            intro a w1 hF hB hdep K hK
            rw [if_pos rfl]
            have f0 : a.tmps[0]?.getD undef = .slice (some ⟨gb, ob, none⟩) n cx := ev_tmpM hF.1
            go_simp
            exact hK.out _ _ (Below.refl _ _) hB rfl
          case s1 =>
            intro a w1 hF hB hdep K hK
            rw [if_pos rfl]
            have f5 : a.tmps[5]?.getD undef = .int .i64 (j : Int) := ev_tmpM hF.2.2
            go_simp
            exact hK.out _ _ (Below.refl _ _) hB rfl
          case s2 =>
            intro a w1 hF hB hdep K hK
            rw [if_pos rfl]
            have e0 : a.tmps[17]?.getD undef = .slice (some ⟨gb, ob, none⟩) n cx := ev_tmpM (show a.eval (.tmp 17) = .slice (some ⟨gb, ob, none⟩) n cx from hdep 0 (by decide))
            have e1 : a.tmps[18]?.getD undef = .int .i64 (j : Int) := ev_tmpM (show a.eval (.tmp 18) = .int .i64 (j : Int) from hdep 1 (by decide))
            have hjn := HJN.out
            go_simp
            exact hK.out _ _ (Below.refl _ _) hB rfl
          case s3 =>
            intro a w1 hF hB hdep K hK
            rw [if_pos rfl]
            have e2 : a.tmps[19]?.getD undef = .pointer (some ⟨gb, ob + j * 11, none⟩) := ev_tmpM (show a.eval (.tmp 19) = .pointer (some ⟨gb, ob + j * 11, none⟩) from hdep 2 (by decide))
            go_simp
            exact hK.out _ _ (Below.refl _ _) hB rfl
          case s4 =>
            intro a w1 hF hB hdep K hK
            rw [if_pos rfl]
            have e3 : a.tmps[20]?.getD undef = .pointer (some ⟨gb, ob + j * 11, none⟩) := ev_tmpM (show a.eval (.tmp 20) = .pointer (some ⟨gb, ob + j * 11, none⟩) from hdep 3 (by decide))
            have q0 : w1.cell? ⟨gb, ob + j * 11, none⟩ = some (.int .i64 d.i) := HX0.out w1 hB 0 _ rfl
            go_simp
            exact hK.out _ _ (Below.refl _ _) hB rfl
          case s5 =>
            intro a w1 hF hB hdep K hK
            rw [if_pos rfl]
            have f1 : a.tmps[1]?.getD undef = .slice (some ⟨gc, oc, none⟩) n cy := ev_tmpM hF.2.1
            go_simp
            exact hK.out _ _ (Below.refl _ _) hB rfl
          case s6 =>
            intro a w1 hF hB hdep K hK
            rw [if_pos rfl]
            have f5 : a.tmps[5]?.getD undef = .int .i64 (j : Int) := ev_tmpM hF.2.2
            go_simp
            exact hK.out _ _ (Below.refl _ _) hB rfl
          case s7 =>
            intro a w1 hF hB hdep K hK
            rw [if_pos rfl]
            have e5 : a.tmps[22]?.getD undef = .slice (some ⟨gc, oc, none⟩) n cy := ev_tmpM (show a.eval (.tmp 22) = .slice (some ⟨gc, oc, none⟩) n cy from hdep 5 (by decide))
            have e6 : a.tmps[23]?.getD undef = .int .i64 (j : Int) := ev_tmpM (show a.eval (.tmp 23) = .int .i64 (j : Int) from hdep 6 (by decide))
            have hjn := HJN.out
            go_simp
            exact hK.out _ _ (Below.refl _ _) hB rfl
          case s8 =>
            intro a w1 hF hB hdep K hK
            rw [if_pos rfl]
            have e7 : a.tmps[24]?.getD undef = .pointer (some ⟨gc, oc + j * 11, none⟩) := ev_tmpM (show a.eval (.tmp 24) = .pointer (some ⟨gc, oc + j * 11, none⟩) from hdep 7 (by decide))
            go_simp
            exact hK.out _ _ (Below.refl _ _) hB rfl
          case s9 =>
            intro a w1 hF hB hdep K hK
            rw [if_pos rfl]
            have e8 : a.tmps[25]?.getD undef = .pointer (some ⟨gc, oc + j * 11, none⟩) := ev_tmpM (show a.eval (.tmp 25) = .pointer (some ⟨gc, oc + j * 11, none⟩) from hdep 8 (by decide))
            have q0 : w1.cell? ⟨gc, oc + j * 11, none⟩ = some (.int .i64 d.i) := HY0.out w1 hB 0 _ rfl
            go_simp
            exact hK.out _ _ (Below.refl _ _) hB rfl
          case s10 =>
            intro a w1 hF hB hdep K hK
            rw [if_pos rfl]
            have e4 : a.tmps[21]?.getD undef = .int .i64 d.i := ev_tmpM (show a.eval (.tmp 21) = .int .i64 d.i from hdep 4 (by decide))
            have e9 : a.tmps[26]?.getD undef = .int .i64 d.i := ev_tmpM (show a.eval (.tmp 26) = .int .i64 d.i from hdep 9 (by decide))
            go_simp
            exact hK.out _ _ (Below.refl _ _) hB rfl
          case s11 =>
            intro a w1 hF hB hdep K hK
            rw [if_pos rfl]
            have e10 : a.tmps[27]?.getD undef = .bool false := ev_tmpM (show a.eval (.tmp 27) = .bool false from hdep 10 (by decide))
            go_simp
            exact hK.out _ _ (Below.refl _ _) hB rfl
          case s12 =>
            intro a w1 hF hB hdep K hK
            rw [if_pos rfl]
            have f0 : a.tmps[0]?.getD undef = .slice (some ⟨gb, ob, none⟩) n cx := ev_tmpM hF.1
            go_simp
            exact hK.out _ _ (Below.refl _ _) hB rfl
          case s13 =>
            intro a w1 hF hB hdep K hK
            rw [if_pos rfl]
            have f5 : a.tmps[5]?.getD undef = .int .i64 (j : Int) := ev_tmpM hF.2.2
            go_simp
            exact hK.out _ _ (Below.refl _ _) hB rfl
          case s14 =>
            intro a w1 hF hB hdep K hK
            rw [if_pos rfl]
            have e12 : a.tmps[29]?.getD undef = .slice (some ⟨gb, ob, none⟩) n cx := ev_tmpM (show a.eval (.tmp 29) = .slice (some ⟨gb, ob, none⟩) n cx from hdep 12 (by decide))
            have e13 : a.tmps[30]?.getD undef = .int .i64 (j : Int) := ev_tmpM (show a.eval (.tmp 30) = .int .i64 (j : Int) from hdep 13 (by decide))
            have hjn := HJN.out
            go_simp
            exact hK.out _ _ (Below.refl _ _) hB rfl
          case s15 =>
            intro a w1 hF hB hdep K hK
            rw [if_pos rfl]
            have e14 : a.tmps[31]?.getD undef = .pointer (some ⟨gb, ob + j * 11, none⟩) := ev_tmpM (show a.eval (.tmp 31) = .pointer (some ⟨gb, ob + j * 11, none⟩) from hdep 14 (by decide))
            go_simp
            exact hK.out _ _ (Below.refl _ _) hB rfl
          case s16 =>
            intro a w1 hF hB hdep K hK
            rw [if_pos rfl]
            refine wp_load_mid 30 (.tmp 32) rfl gb (ob + j * 11 + 1) (hdep 15 (by decide)) [.int .i64 d.e.s, .int .i64 d.e.q, .int .i64 d.e.c.kind, .int .i64 d.e.c.who, .slice a1.Ak d.e.c.key.length a1.ck, .slice a1.Av d.e.c.val.length a1.cv, .slice a1.Ao d.e.c.old.length a1.co] _ (fun q v hv => HX1.out w1 hB q v hv) Try.underlying30 rfl (by kernel_rfl) ?_
            exact hK.out _ _ (Below.refl _ _) hB rfl
          case s17 =>
            intro a w1 hF hB hdep K hK
            rw [if_pos rfl]
            have f1 : a.tmps[1]?.getD undef = .slice (some ⟨gc, oc, none⟩) n cy := ev_tmpM hF.2.1
            go_simp
            exact hK.out _ _ (Below.refl _ _) hB rfl
          case s18 =>
            intro a w1 hF hB hdep K hK
            rw [if_pos rfl]
            have f5 : a.tmps[5]?.getD undef = .int .i64 (j : Int) := ev_tmpM hF.2.2
            go_simp
            exact hK.out _ _ (Below.refl _ _) hB rfl
          case s19 =>
            intro a w1 hF hB hdep K hK
            rw [if_pos rfl]
            have e17 : a.tmps[34]?.getD undef = .slice (some ⟨gc, oc, none⟩) n cy := ev_tmpM (show a.eval (.tmp 34) = .slice (some ⟨gc, oc, none⟩) n cy from hdep 17 (by decide))
            have e18 : a.tmps[35]?.getD undef = .int .i64 (j : Int) := ev_tmpM (show a.eval (.tmp 35) = .int .i64 (j : Int) from hdep 18 (by decide))
            have hjn := HJN.out
            go_simp
            exact hK.out _ _ (Below.refl _ _) hB rfl
          case s20 =>
            intro a w1 hF hB hdep K hK
            rw [if_pos rfl]
            have e19 : a.tmps[36]?.getD undef = .pointer (some ⟨gc, oc + j * 11, none⟩) := ev_tmpM (show a.eval (.tmp 36) = .pointer (some ⟨gc, oc + j * 11, none⟩) from hdep 19 (by decide))
            go_simp
            exact hK.out _ _ (Below.refl _ _) hB rfl
          case s21 =>
            intro a w1 hF hB hdep K hK
            rw [if_pos rfl]
            refine wp_load_mid 30 (.tmp 37) rfl gc (oc + j * 11 + 1) (hdep 20 (by decide)) [.int .i64 d.e.s, .int .i64 d.e.q, .int .i64 d.e.c.kind, .int .i64 d.e.c.who, .slice a2.Ak d.e.c.key.length a2.ck, .slice a2.Av d.e.c.val.length a2.cv, .slice a2.Ao d.e.c.old.length a2.co] _ (fun q v hv => HY1.out w1 hB q v hv) Try.underlying30 rfl (by kernel_rfl) ?_
            exact hK.out _ _ (Below.refl _ _) hB rfl
          case s22 =>
            intro a w1 hF hB hdep K hK
            rw [if_pos rfl]
            have e16 : a.tmps[33]?.getD undef = .agg #[.int .i64 d.e.s, .int .i64 d.e.q, .int .i64 d.e.c.kind, .int .i64 d.e.c.who, .slice a1.Ak d.e.c.key.length a1.ck, .slice a1.Av d.e.c.val.length a1.cv, .slice a1.Ao d.e.c.old.length a1.co] := ev_tmpM (show a.eval (.tmp 33) = .agg #[.int .i64 d.e.s, .int .i64 d.e.q, .int .i64 d.e.c.kind, .int .i64 d.e.c.who, .slice a1.Ak d.e.c.key.length a1.ck, .slice a1.Av d.e.c.val.length a1.cv, .slice a1.Ao d.e.c.old.length a1.co] from hdep 16 (by decide))
            have e21 : a.tmps[38]?.getD undef = .agg #[.int .i64 d.e.s, .int .i64 d.e.q, .int .i64 d.e.c.kind, .int .i64 d.e.c.who, .slice a2.Ak d.e.c.key.length a2.ck, .slice a2.Av d.e.c.val.length a2.cv, .slice a2.Ao d.e.c.old.length a2.co] := ev_tmpM (show a.eval (.tmp 38) = .agg #[.int .i64 d.e.s, .int .i64 d.e.q, .int .i64 d.e.c.kind, .int .i64 d.e.c.who, .slice a2.Ak d.e.c.key.length a2.ck, .slice a2.Av d.e.c.val.length a2.cv, .slice a2.Ao d.e.c.old.length a2.co] from hdep 21 (by decide))
            go_simp
            go_at_call 30
            refine (CE.out w1 hB).mono ?_
            rintro en w9 ⟨rfl, hb9⟩
            go_simp
            exact hK.out _ _ hb9 (hB.trans (hb9.mono hB.size)) rfl
          case s23 =>
            intro a w1 hF hB hdep K hK
            rw [if_pos rfl]
            have e22 : a.tmps[39]?.getD undef = .bool true := ev_tmpM (show a.eval (.tmp 39) = .bool true from hdep 22 (by decide))
            go_simp
            exact hK.out _ _ (Below.refl _ _) hB rfl
          case s24 =>
            intro a w1 hF hB hdep K hK
            rw [if_pos rfl]
            have e11 : a.tmps[28]?.getD undef = .bool false := ev_tmpM (show a.eval (.tmp 28) = .bool false from hdep 11 (by decide))
            have e23 : a.tmps[40]?.getD undef = .bool false := ev_tmpM (show a.eval (.tmp 40) = .bool false from hdep 23 (by decide))
            go_simp
            exact hK.out _ _ (Below.refl _ _) hB rfl
          case s25 =>
            intro a w1 hF hB hdep K hK
            rw [if_pos rfl]
            have e24 : a.tmps[41]?.getD undef = .bool false := ev_tmpM (show a.eval (.tmp 41) = .bool false from hdep 24 (by decide))
            go_simp
            exact hK.out _ _ (Below.refl _ _) hB rfl
          case s26 =>
            intro a w1 hF hB hdep K hK
            rw [if_pos rfl]
            have f0 : a.tmps[0]?.getD undef = .slice (some ⟨gb, ob, none⟩) n cx := ev_tmpM hF.1
            go_simp
            exact hK.out _ _ (Below.refl _ _) hB rfl
          case s27 =>
            intro a w1 hF hB hdep K hK
            rw [if_pos rfl]
            have f5 : a.tmps[5]?.getD undef = .int .i64 (j : Int) := ev_tmpM hF.2.2
            go_simp
            exact hK.out _ _ (Below.refl _ _) hB rfl
          case s28 =>
            intro a w1 hF hB hdep K hK
            rw [if_pos rfl]
            have e26 : a.tmps[43]?.getD undef = .slice (some ⟨gb, ob, none⟩) n cx := ev_tmpM (show a.eval (.tmp 43) = .slice (some ⟨gb, ob, none⟩) n cx from hdep 26 (by decide))
            have e27 : a.tmps[44]?.getD undef = .int .i64 (j : Int) := ev_tmpM (show a.eval (.tmp 44) = .int .i64 (j : Int) from hdep 27 (by decide))
            have hjn := HJN.out
            go_simp
            exact hK.out _ _ (Below.refl _ _) hB rfl
          case s29 =>
            intro a w1 hF hB hdep K hK
            rw [if_pos rfl]
            have e28 : a.tmps[45]?.getD undef = .pointer (some ⟨gb, ob + j * 11, none⟩) := ev_tmpM (show a.eval (.tmp 45) = .pointer (some ⟨gb, ob + j * 11, none⟩) from hdep 28 (by decide))
            go_simp
            exact hK.out _ _ (Below.refl _ _) hB rfl
          case s30 =>
            intro a w1 hF hB hdep K hK
            rw [if_pos rfl]
            refine wp_load_mid 65 (.tmp 46) rfl gb (ob + j * 11 + 8) (hdep 29 (by decide)) [.int .i64 d.r.e, .slice A1 d.r.v.length c1, .int .i64 d.r.n] _ (fun q v hv => HX8.out w1 hB q v hv) Try.underlying65 rfl (by kernel_rfl) ?_
            exact hK.out _ _ (Below.refl _ _) hB rfl
          case s31 =>
            intro a w1 hF hB hdep K hK
            rw [if_pos rfl]
            have f1 : a.tmps[1]?.getD undef = .slice (some ⟨gc, oc, none⟩) n cy := ev_tmpM hF.2.1
            go_simp
            exact hK.out _ _ (Below.refl _ _) hB rfl
          case s32 =>
            intro a w1 hF hB hdep K hK
            rw [if_pos rfl]
            have f5 : a.tmps[5]?.getD undef = .int .i64 (j : Int) := ev_tmpM hF.2.2
            go_simp
            exact hK.out _ _ (Below.refl _ _) hB rfl
          case s33 =>
            intro a w1 hF hB hdep K hK
            rw [if_pos rfl]
            have e31 : a.tmps[48]?.getD undef = .slice (some ⟨gc, oc, none⟩) n cy := ev_tmpM (show a.eval (.tmp 48) = .slice (some ⟨gc, oc, none⟩) n cy from hdep 31 (by decide))
            have e32 : a.tmps[49]?.getD undef = .int .i64 (j : Int) := ev_tmpM (show a.eval (.tmp 49) = .int .i64 (j : Int) from hdep 32 (by decide))
            have hjn := HJN.out
            go_simp
            exact hK.out _ _ (Below.refl _ _) hB rfl
          case s34 =>
            intro a w1 hF hB hdep K hK
            rw [if_pos rfl]
            have e33 : a.tmps[50]?.getD undef = .pointer (some ⟨gc, oc + j * 11, none⟩) := ev_tmpM (show a.eval (.tmp 50) = .pointer (some ⟨gc, oc + j * 11, none⟩) from hdep 33 (by decide))
            go_simp
            exact hK.out _ _ (Below.refl _ _) hB rfl
          case s35 =>
            intro a w1 hF hB hdep K hK
            rw [if_pos rfl]
            refine wp_load_mid 65 (.tmp 51) rfl gc (oc + j * 11 + 8) (hdep 34 (by decide)) [.int .i64 d.r.e, .slice A2 d.r.v.length c2, .int .i64 d.r.n] _ (fun q v hv => HY8.out w1 hB q v hv) Try.underlying65 rfl (by kernel_rfl) ?_
            exact hK.out _ _ (Below.refl _ _) hB rfl
          case s36 =>
            intro a w1 hF hB hdep K hK
            rw [if_pos rfl]
            have e30 : a.tmps[47]?.getD undef = .agg #[.int .i64 d.r.e, .slice A1 d.r.v.length c1, .int .i64 d.r.n] := ev_tmpM (show a.eval (.tmp 47) = .agg #[.int .i64 d.r.e, .slice A1 d.r.v.length c1, .int .i64 d.r.n] from hdep 30 (by decide))
            have e35 : a.tmps[52]?.getD undef = .agg #[.int .i64 d.r.e, .slice A2 d.r.v.length c2, .int .i64 d.r.n] := ev_tmpM (show a.eval (.tmp 52) = .agg #[.int .i64 d.r.e, .slice A2 d.r.v.length c2, .int .i64 d.r.n] from hdep 35 (by decide))
            go_simp
            go_at_call 31
            refine (CR.out w1 hB).mono ?_
            rintro en w9 ⟨rfl, hb9⟩
            go_simp
            exact hK.out _ _ hb9 (hB.trans (hb9.mono hB.size)) rfl
          case s37 =>
            intro a w1 hF hB hdep K hK
            rw [if_pos rfl]
            have e36 : a.tmps[53]?.getD undef = .bool true := ev_tmpM (show a.eval (.tmp 53) = .bool true from hdep 36 (by decide))
            go_simp
            exact hK.out _ _ (Below.refl _ _) hB rfl
          case s38 =>
            intro a w1 hF hB hdep K hK
            rw [if_pos rfl]
            have e25 : a.tmps[42]?.getD undef = .bool false := ev_tmpM (show a.eval (.tmp 42) = .bool false from hdep 25 (by decide))
            have e37 : a.tmps[54]?.getD undef = .bool false := ev_tmpM (show a.eval (.tmp 54) = .bool false from hdep 37 (by decide))
            go_simp
            exact hK.out _ _ (Below.refl _ _) hB rfl
        case hm => kernel_rfl
        case hb => kernel_rfl
        case inj =>
          intro i j hi hj h
          have h1 : ((List.range 39).all fun i => (List.range 39).all fun j => !(dstSD i == dstSD j) || (i == j)) = true := by kernel_rfl
          have h2 := List.all_eq_true.1 (List.all_eq_true.1 h1 i (List.mem_range.2 hi)) j (List.mem_range.2 hj)
          simpa [h] using h2
        case dst => exact all_ops (AllFrom.cons rfl (AllFrom.cons rfl (AllFrom.cons rfl (AllFrom.cons rfl (AllFrom.cons rfl (AllFrom.cons rfl (AllFrom.cons rfl (AllFrom.cons rfl (AllFrom.cons rfl (AllFrom.cons rfl (AllFrom.cons rfl (AllFrom.cons rfl (AllFrom.cons rfl (AllFrom.cons rfl (AllFrom.cons rfl (AllFrom.cons rfl (AllFrom.cons rfl (AllFrom.cons rfl (AllFrom.cons rfl (AllFrom.cons rfl (AllFrom.cons rfl (AllFrom.cons rfl (AllFrom.cons rfl (AllFrom.cons rfl (AllFrom.cons rfl (AllFrom.cons rfl (AllFrom.cons rfl (AllFrom.cons rfl (AllFrom.cons rfl (AllFrom.cons rfl (AllFrom.cons rfl (AllFrom.cons rfl (AllFrom.cons rfl (AllFrom.cons rfl (AllFrom.cons rfl (AllFrom.cons rfl (AllFrom.cons rfl (AllFrom.cons rfl (AllFrom.cons rfl AllFrom.nil)))))))))))))))))))))))))))))))))))))))
        case deps =>
          intro i hi j hj
          refine deps_ofM (deps := depsSD) ?_ i hi j hj
          kernel_rfl
        case want => exact all_ops (AllFrom.cons (fun U w hd => rfl) (AllFrom.cons (fun U w hd => rfl) (AllFrom.cons (fun U w hd => rfl) (AllFrom.cons (fun U w hd => rfl) (AllFrom.cons (fun U w hd => rfl) (AllFrom.cons (fun U w hd => rfl) (AllFrom.cons (fun U w hd => rfl) (AllFrom.cons (fun U w hd => rfl) (AllFrom.cons (fun U w hd => rfl) (AllFrom.cons (fun U w hd => rfl) (AllFrom.cons (fun U w hd => rfl) (AllFrom.cons (fun U w hd => rfl) (AllFrom.cons (fun U w hd => wanted_ofM rfl (yielded_ofM (s := 28) (b := false) rfl ((show _ = some (U 28) from by kernel_rfl).trans (congrArg some (show U 28 = .bool false from hd 11 (by decide))))) rfl) (AllFrom.cons (fun U w hd => wanted_ofM rfl (yielded_ofM (s := 28) (b := false) rfl ((show _ = some (U 28) from by kernel_rfl).trans (congrArg some (show U 28 = .bool false from hd 11 (by decide))))) rfl) (AllFrom.cons (fun U w hd => wanted_ofM rfl (yielded_ofM (s := 28) (b := false) rfl ((show _ = some (U 28) from by kernel_rfl).trans (congrArg some (show U 28 = .bool false from hd 11 (by decide))))) rfl) (AllFrom.cons (fun U w hd => wanted_ofM rfl (yielded_ofM (s := 28) (b := false) rfl ((show _ = some (U 28) from by kernel_rfl).trans (congrArg some (show U 28 = .bool false from hd 11 (by decide))))) rfl) (AllFrom.cons (fun U w hd => wanted_ofM rfl (yielded_ofM (s := 28) (b := false) rfl ((show _ = some (U 28) from by kernel_rfl).trans (congrArg some (show U 28 = .bool false from hd 11 (by decide))))) rfl) (AllFrom.cons (fun U w hd => wanted_ofM rfl (yielded_ofM (s := 28) (b := false) rfl ((show _ = some (U 28) from by kernel_rfl).trans (congrArg some (show U 28 = .bool false from hd 11 (by decide))))) rfl) (AllFrom.cons (fun U w hd => wanted_ofM rfl (yielded_ofM (s := 28) (b := false) rfl ((show _ = some (U 28) from by kernel_rfl).trans (congrArg some (show U 28 = .bool false from hd 11 (by decide))))) rfl) (AllFrom.cons (fun U w hd => wanted_ofM rfl (yielded_ofM (s := 28) (b := false) rfl ((show _ = some (U 28) from by kernel_rfl).trans (congrArg some (show U 28 = .bool false from hd 11 (by decide))))) rfl) (AllFrom.cons (fun U w hd => wanted_ofM rfl (yielded_ofM (s := 28) (b := false) rfl ((show _ = some (U 28) from by kernel_rfl).trans (congrArg some (show U 28 = .bool false from hd 11 (by decide))))) rfl) (AllFrom.cons (fun U w hd => wanted_ofM rfl (yielded_ofM (s := 28) (b := false) rfl ((show _ = some (U 28) from by kernel_rfl).trans (congrArg some (show U 28 = .bool false from hd 11 (by decide))))) rfl) (AllFrom.cons (fun U w hd => wanted_ofM rfl (yielded_ofM (s := 28) (b := false) rfl ((show _ = some (U 28) from by kernel_rfl).trans (congrArg some (show U 28 = .bool false from hd 11 (by decide))))) rfl) (AllFrom.cons (fun U w hd => wanted_ofM rfl (yielded_ofM (s := 28) (b := false) rfl ((show _ = some (U 28) from by kernel_rfl).trans (congrArg some (show U 28 = .bool false from hd 11 (by decide))))) rfl) (AllFrom.cons (fun U w hd => rfl) (AllFrom.cons (fun U w hd => rfl) (AllFrom.cons (fun U w hd => wanted_ofM rfl (yielded_ofM (s := 42) (b := false) rfl ((show _ = some (U 42) from by kernel_rfl).trans (congrArg some (show U 42 = .bool false from hd 25 (by decide))))) rfl) (AllFrom.cons (fun U w hd => wanted_ofM rfl (yielded_ofM (s := 42) (b := false) rfl ((show _ = some (U 42) from by kernel_rfl).trans (congrArg some (show U 42 = .bool false from hd 25 (by decide))))) rfl) (AllFrom.cons (fun U w hd => wanted_ofM rfl (yielded_ofM (s := 42) (b := false) rfl ((show _ = some (U 42) from by kernel_rfl).trans (congrArg some (show U 42 = .bool false from hd 25 (by decide))))) rfl) (AllFrom.cons (fun U w hd => wanted_ofM rfl (yielded_ofM (s := 42) (b := false) rfl ((show _ = some (U 42) from by kernel_rfl).trans (congrArg some (show U 42 = .bool false from hd 25 (by decide))))) rfl) (AllFrom.cons (fun U w hd => wanted_ofM rfl (yielded_ofM (s := 42) (b := false) rfl ((show _ = some (U 42) from by kernel_rfl).trans (congrArg some (show U 42 = .bool false from hd 25 (by decide))))) rfl) (AllFrom.cons (fun U w hd => wanted_ofM rfl (yielded_ofM (s := 42) (b := false) rfl ((show _ = some (U 42) from by kernel_rfl).trans (congrArg some (show U 42 = .bool false from hd 25 (by decide))))) rfl) (AllFrom.cons (fun U w hd => wanted_ofM rfl (yielded_ofM (s := 42) (b := false) rfl ((show _ = some (U 42) from by kernel_rfl).trans (congrArg some (show U 42 = .bool false from hd 25 (by decide))))) rfl) (AllFrom.cons (fun U w hd => wanted_ofM rfl (yielded_ofM (s := 42) (b := false) rfl ((show _ = some (U 42) from by kernel_rfl).trans (congrArg some (show U 42 = .bool false from hd 25 (by decide))))) rfl) (AllFrom.cons (fun U w hd => wanted_ofM rfl (yielded_ofM (s := 42) (b := false) rfl ((show _ = some (U 42) from by kernel_rfl).trans (congrArg some (show U 42 = .bool false from hd 25 (by decide))))) rfl) (AllFrom.cons (fun U w hd => wanted_ofM rfl (yielded_ofM (s := 42) (b := false) rfl ((show _ = some (U 42) from by kernel_rfl).trans (congrArg some (show U 42 = .bool false from hd 25 (by decide))))) rfl) (AllFrom.cons (fun U w hd => wanted_ofM rfl (yielded_ofM (s := 42) (b := false) rfl ((show _ = some (U 42) from by kernel_rfl).trans (congrArg some (show U 42 = .bool false from hd 25 (by decide))))) rfl) (AllFrom.cons (fun U w hd => wanted_ofM rfl (yielded_ofM (s := 42) (b := false) rfl ((show _ = some (U 42) from by kernel_rfl).trans (congrArg some (show U 42 = .bool false from hd 25 (by decide))))) rfl) (AllFrom.cons (fun U w hd => rfl) AllFrom.nil)))))))))))))))))))))))))))))))))))))))
        case put => exact all_ops (AllFrom.cons (fun _ _ => by kernel_rfl) (AllFrom.cons (fun _ _ => by kernel_rfl) (AllFrom.cons (fun _ _ => by kernel_rfl) (AllFrom.cons (fun _ _ => by kernel_rfl) (AllFrom.cons (fun _ _ => by kernel_rfl) (AllFrom.cons (fun _ _ => by kernel_rfl) (AllFrom.cons (fun _ _ => by kernel_rfl) (AllFrom.cons (fun _ _ => by kernel_rfl) (AllFrom.cons (fun _ _ => by kernel_rfl) (AllFrom.cons (fun _ _ => by kernel_rfl) (AllFrom.cons (fun _ _ => by kernel_rfl) (AllFrom.cons (fun _ _ => by kernel_rfl) (AllFrom.cons (fun _ _ => by kernel_rfl) (AllFrom.cons (fun _ _ => by kernel_rfl) (AllFrom.cons (fun _ _ => by kernel_rfl) (AllFrom.cons (fun _ _ => by kernel_rfl) (AllFrom.cons (fun _ _ => by kernel_rfl) (AllFrom.cons (fun _ _ => by kernel_rfl) (AllFrom.cons (fun _ _ => by kernel_rfl) (AllFrom.cons (fun _ _ => by kernel_rfl) (AllFrom.cons (fun _ _ => by kernel_rfl) (AllFrom.cons (fun _ _ => by kernel_rfl) (AllFrom.cons (fun _ _ => by kernel_rfl) (AllFrom.cons (fun _ _ => by kernel_rfl) (AllFrom.cons (fun _ _ => by kernel_rfl) (AllFrom.cons (fun _ _ => by kernel_rfl) (AllFrom.cons (fun _ _ => by kernel_rfl) (AllFrom.cons (fun _ _ => by kernel_rfl) (AllFrom.cons (fun _ _ => by kernel_rfl) (AllFrom.cons (fun _ _ => by kernel_rfl) (AllFrom.cons (fun _ _ => by kernel_rfl) (AllFrom.cons (fun _ _ => by kernel_rfl) (AllFrom.cons (fun _ _ => by kernel_rfl) (AllFrom.cons (fun _ _ => by kernel_rfl) (AllFrom.cons (fun _ _ => by kernel_rfl) (AllFrom.cons (fun _ _ => by kernel_rfl) (AllFrom.cons (fun _ _ => by kernel_rfl) (AllFrom.cons (fun _ _ => by kernel_rfl) (AllFrom.cons (fun _ _ => by kernel_rfl) AllFrom.nil)))))))))))))))))))))))))))))))))))))))
        case ev => exact all_ops (AllFrom.cons (fun _ => by kernel_rfl) (AllFrom.cons (fun _ => by kernel_rfl) (AllFrom.cons (fun _ => by kernel_rfl) (AllFrom.cons (fun _ => by kernel_rfl) (AllFrom.cons (fun _ => by kernel_rfl) (AllFrom.cons (fun _ => by kernel_rfl) (AllFrom.cons (fun _ => by kernel_rfl) (AllFrom.cons (fun _ => by kernel_rfl) (AllFrom.cons (fun _ => by kernel_rfl) (AllFrom.cons (fun _ => by kernel_rfl) (AllFrom.cons (fun _ => by kernel_rfl) (AllFrom.cons (fun _ => by kernel_rfl) (AllFrom.cons (fun _ => by kernel_rfl) (AllFrom.cons (fun _ => by kernel_rfl) (AllFrom.cons (fun _ => by kernel_rfl) (AllFrom.cons (fun _ => by kernel_rfl) (AllFrom.cons (fun _ => by kernel_rfl) (AllFrom.cons (fun _ => by kernel_rfl) (AllFrom.cons (fun _ => by kernel_rfl) (AllFrom.cons (fun _ => by kernel_rfl) (AllFrom.cons (fun _ => by kernel_rfl) (AllFrom.cons (fun _ => by kernel_rfl) (AllFrom.cons (fun _ => by kernel_rfl) (AllFrom.cons (fun _ => by kernel_rfl) (AllFrom.cons (fun _ => by kernel_rfl) (AllFrom.cons (fun _ => by kernel_rfl) (AllFrom.cons (fun _ => by kernel_rfl) (AllFrom.cons (fun _ => by kernel_rfl) (AllFrom.cons (fun _ => by kernel_rfl) (AllFrom.cons (fun _ => by kernel_rfl) (AllFrom.cons (fun _ => by kernel_rfl) (AllFrom.cons (fun _ => by kernel_rfl) (AllFrom.cons (fun _ => by kernel_rfl) (AllFrom.cons (fun _ => by kernel_rfl) (AllFrom.cons (fun _ => by kernel_rfl) (AllFrom.cons (fun _ => by kernel_rfl) (AllFrom.cons (fun _ => by kernel_rfl) (AllFrom.cons (fun _ => by kernel_rfl) (AllFrom.cons (fun _ => by kernel_rfl) AllFrom.nil)))))))))))))))))))))))))))))))))))))))
        case fr => exact fun U => ⟨by kernel_rfl, by kernel_rfl, by kernel_rfl⟩
        case done =>
          intro U w' hB hV
          have e1 : U 55 = .bool false := hV 38 (by decide)
          unfold frameSD
          rw [e1]
          have HB9 := Lib.hid hB
          clear hV e1 hB
          go_wp2_with fail
          go_meet
          exact ⟨rfl, HB9⟩
      case rest =>
        obtain ⟨rfl, HB9⟩ := hcut
        go_wp2_with fail
        go_roundw
        case rel => exact ⟨j + 1, by omega, by go_num, Lib.hid (HB.out.trans (HB9.out.mono HB.out.size))⟩
        case measure => simp only [intOf]; omega
    · have hji : ¬ (j : Int) < (n : Int) := by omega
      go_wp2_with fail
      go_ret
      exact ⟨rfl, HB.out⟩
end Go.Proofs.Ytaknfmionkkdjaa

