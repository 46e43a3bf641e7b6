/- The contracts of the code: maps.copied, slices.IndexFunc of it. -/
import Derived.Test.YtcmjpjhaaookfaaMapsCode1
import Derived.Test.YtcmjpjhaaookfaaInPlaceKit
namespace Go.Proofs.Ytcmjpjhaaookfaa
open Go.RowKit
set_option linter.unusedVariables false
/-- pairs in a block with room for one more -/
def GotC (w : World) (ps : List Pr) (e : Ending) (w' : World) : Prop := ∃ g, e = .returned (.slice (some ⟨g, 0, none⟩) ps.length (ps.length + 1)) ∧ OwnP w w' (some ⟨g, 0, none⟩) ps.length (ps.length + 1) ps ∧ Below w.heap.size w w'
set_option maxHeartbeats 2000000 in
set_option maxRecDepth 100000 in
theorem copiedM_raw (ps : List Pr) (A : Option Addr) (n c B : Nat) (hn : n ≤ 100000) (hL : LimP ps) (w : World) (hr : RdP w B A n ps) :
    Calls Try.prog 88 #[.slice A n c] w (GotC w ps) := by
  have HL := Lib.hid hL
  have HR := Lib.hid hr.fit
  have hlen := hr.length
  obtain ⟨i0, hi0, hi1, hi2, hi3⟩ := info_parts cellP.info
  clear hr hL
  go_enter Try.func88, Try.ntmps88
  go_wp2_with (first
    | (at_make
       refine wpList_make_own w rfl _ _ 30 rfl w.heap.size 42 i0 _ 2 Try.underlying30 hi0 hi1 hi2 _ _ _ (n + 1) rfl rfl (by push_cast; rfl) (by rw [hi3]; omega) (by unfold maxLen; omega) (Nat.le_refl _) ?_
       intro w0 hown0 hg0)
    | fail)
  clear hi0 hi1 hi2 hi3
  obtain ⟨g, hg⟩ : ∃ g, w.heap.size = g := ⟨_, rfl⟩
  have HB00 := Lib.hid ((Below.refl w.heap.size w).grown hg0 (Nat.le_refl _) (fun k hk => by cases hk))
  have HO00 : Hid (OwnP w w0 (some ⟨g, 0, none⟩) 0 (n + 1) []) := Lib.hid ⟨[], by rw [← hg]; exact hown0, Owns.nil w w0⟩
  clear hown0 hg0
  rw [hg]
  have HG := Lib.hid hg
  clear hg
  go_loopw [3, 5, 12] (fun s3 s5 s12 wr => ∃ (k : Nat), k ≤ n ∧ s12 = .int .i64 (k : Int) ∧ s3 = .slice (some ⟨g, 0, none⟩) k (n + 1) ∧ Hid (OwnP w wr (some ⟨g, 0, none⟩) k (n + 1) (ps.take k)) ∧ Hid (Below w.heap.size w wr)) (fun _ _ s12 _ => n - (intOf s12).toNat)
  case atStart => exact ⟨0, Nat.zero_le _, rfl, rfl, Lib.hid (by simpa using HO00.out), HB00⟩
  case round =>
    obtain ⟨k, hk, rfl, rfl, HO, HB⟩ := hrel
    by_cases hlt : k < n
    · obtain ⟨b, o, p, A1, c1, A2, c2, rfl, hp, hcell1, hcell2, hrd1, hrd2⟩ := ((HR.out.below HB.out).fit).at hlt
      have hl1 : Lim 0 p.1.length := (HL.out p (List.mem_of_getElem? hp)).1
      have hl2 : Lim 0 p.2.length := (HL.out p (List.mem_of_getElem? hp)).2
      have HRD1 := Lib.hid hrd1
      have HRD2 := Lib.hid hrd2
      have HP := Lib.hid hp
      clear hrd1 hrd2 hp
      go_upto_region 5 with fail
      have hb0 : Below wr.heap.size wr (wr.alloc (.cells #[.slice A1 p.1.length c1, .slice A2 p.2.length c2] 42)).drew := ((Below.refl _ _).alloc (Nat.le_refl _) _).drew
      have hBX := HB.out.trans (hb0.mono HB.out.size)
      have HC : Hid (∀ wx, Below (wr.heap.size + 1) (wr.alloc (.cells #[.slice A1 p.1.length c1, .slice A2 p.2.length c2] 42)).drew wx → wx.cell? ⟨wr.heap.size, 0, none⟩ = some (.slice A1 p.1.length c1) ∧ wx.cell? ⟨wr.heap.size, 1, none⟩ = some (.slice A2 p.2.length c2)) :=
        Lib.hid (fun wx hb => ⟨(hb.cell (p := ⟨wr.heap.size, 0, none⟩) (by simp)).trans ((Blk.new wr 42 #[.slice A1 p.1.length c1, .slice A2 p.2.length c2]).cell 0), (hb.cell (p := ⟨wr.heap.size, 1, none⟩) (by simp)).trans ((Blk.new wr 42 #[.slice A1 p.1.length c1, .slice A2 p.2.length c2]).cell 1)⟩)
      obtain ⟨wz, hwz⟩ : ∃ wz, wr.alloc (.cells #[.slice A1 p.1.length c1, .slice A2 p.2.length c2] 42) = wz := ⟨_, rfl⟩
      have hsz : wz.heap.size = wr.heap.size + 1 := by rw [← hwz]; simp
      rw [hwz] at hb0 hBX HC ⊢
      have HW := Lib.hid hwz
      have HSZ := Lib.hid hsz
      have HBX := Lib.hid hBX
      have HB0 := Lib.hid hb0
      have hc0 := HC.out wz.drew (Below.refl _ _)
      obtain ⟨hcA, hcB⟩ := hc0
      clear hwz hsz hBX hb0
      go_region_law (first
        | (refine step_append_fits (W := w) cellP (.tmp 16) (.tmp 24) rfl rfl (by rfl) (ownsRow_below hv1 ((Below.refl _ _).alloc (Nat.le_refl _) _)) (by rfl) (Rd.twoAt _ _ _ _ rfl) (by intro u hu; simp at hu; rcases hu with rfl | rfl <;> rfl) (by omega) (by omega) (hB2.alloc hB2.size _) ?_
           intro w3 hown3 hB3 hg3)
        | (rw [if_pos (by kernel_rfl)]; go_simp; go_at_call_of 80 A1; refine (clone_any (W := w) hl1 (HRD1.out.below HB0.out) HBX.out).mono ?_; rintro e w1 ⟨A4, c4, rfl, ho1, hB1, hb1⟩; obtain ⟨hcA, hcB⟩ := HC.out w1 (by rw [← HSZ.out]; exact hb1); go_simp)
        | (rw [if_pos (by kernel_rfl)]; go_simp; go_at_call_of 80 A2; refine (clone_any (W := w) hl2 (HRD2.out.below (HB0.out.trans (hb1.mono HB0.out.size))) hB1).mono ?_; rintro e w2 ⟨A5, c5, rfl, ho2, hB2, hb2⟩; have ho1 := own_below ho1 hb2; obtain ⟨vs, hv1, hv2⟩ := (HO.out.below (HB0.out.trans (hb1.mono HB0.out.size))).below hb2; go_simp))
      all_goals go_wp2_with fail
      all_goals go_roundw
      all_goals first
        | (simp only [intOf]; omega)
        | (refine ⟨k + 1, by omega, by go_num, rfl, Lib.hid ?_, Lib.hid hB3⟩
           have b1 : Below w2.heap.size w2 (w2.alloc (.cells #[.slice A4 p.1.length c4, .slice A5 p.2.length c5] 42)) := (Below.refl _ _).alloc (Nat.le_refl _) _
           refine ⟨vs ++ [.slice A4 p.1.length c4, .slice A5 p.2.length c5], hown3, ?_⟩
           rw [List.take_add_one, HP.out, flat_append]
           exact ((hv2.two ho1 ho2).below b1).grownP (ownsRow_below hv1 b1) hg3)
    · obtain rfl : k = n := by omega
      go_wp2_with fail
      go_ret
      have HO2 := HO.out
      rw [List.take_of_length_le (by omega)] at HO2
      subst hlen
      exact ⟨g, rfl, HO2, HB.out⟩
end Go.Proofs.Ytcmjpjhaaookfaa
