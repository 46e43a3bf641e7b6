/- The contracts of the document's own answer for a map: Get, Del; two maps alike. -/
import Derived.Test.YtcmjpjhaaookfaaMapsRef
namespace Go.Proofs.Ytcmjpjhaaookfaa
open Go.RowKit
set_option linter.unusedVariables false
theorem belowN_d {w : World} (m : Nat) : Below w.heap.size w (w.drewN m) := belowN_ (Below.refl _ _) m
/-- a result, whose bytes are W's own, as it lies in the variable at b -/
theorem refGet_raw {w : World} {ps : List Pr} {k : List Nat} {A A' : Option Addr} {n c n' c' B B' : Nat} (hn : n ≤ 100000) (hL : LimP ps) (hb : BytesP ps) (hbk : ∀ x ∈ k, x < 256) (h : RdP w B A n ps) (h' : Rd w B' A' n' (bv k)) :
    Calls Try.prog 59 #[.slice A n c, .slice A' n' c'] w (GotR w w (Mp.getE ps k) (Mp.getV ps k) 0) := by
  have hlen := h.length
  have H := Lib.hid h.fit
  have H' := Lib.hid h'.fit
  have HL := Lib.hid hL
  have HB := Lib.hid hb
  have HBK := Lib.hid hbk
  have b0 : Below w.heap.size w (w.alloc (.cells zeroR 34)) := (Below.refl _ _).alloc (Nat.le_refl _) _
  clear h h' hL hb hbk
  unfold Mp.getE Mp.getV
  by_cases hk : k ∈ Mp.keys ps
  · rw [if_pos hk, if_pos hk]
    obtain ⟨i, ei, hi, hix⟩ := Mp.place_lt hk
    rw [hix]
    have hin : i < n := by
      have h1 : i < (Mp.keys ps).length := by
        rcases Nat.lt_or_ge i (Mp.keys ps).length with h | h
        · exact h
        · rw [List.getElem?_eq_none h] at hi; cases hi
      rw [keys_length, hlen] at h1; exact h1
    obtain ⟨b, o, p, A1, c1, A2, c2, rfl, hp, _, hcell2, _, hrd2⟩ := H.out.at hin
    have hv : (ps[i]?.map (·.2)).getD [] = p.2 := by rw [hp]; rfl
    rw [hv]
    have hl2 : Lim 0 p.2.length := (HL.out p (List.mem_of_getElem? hp)).2
    have hlt2 := World.block_lt_of_cell? _ _ hcell2
    have HC : Hid (∀ wx, Below w.heap.size w wx → wx.cell? ⟨b, o + i * 2 + 1, none⟩ = some (.slice A2 p.2.length c2)) := Lib.hid (fun wx hb => (hb.cell (p := ⟨b, o + i * 2 + 1, none⟩) hlt2).trans hcell2)
    have HRD := Lib.hid hrd2
    have HE := Lib.hid ei
    have h0 : (0 : Int) ≤ (i : Int) := by omega
    have h1 : (i : Int) < (n : Int) := by omega
    clear hv hix hi hcell2 hrd2 ei hp hk
    go_enter Try.func59, Try.ntmps59
    go_wp2_with fail
    refine (refKey_any _ (k := k) hn HB.out HBK.out (H.out.below b0) (H'.out.below b0)).mono ?_
    rintro e w1 ⟨rfl, m, rfl⟩
    rw [HE.out]
    have hc1 := HC.out _ (belowN_ b0 m)
    have HK := Lib.hid ((Blk.new w 34 zeroR).below (belowN_d m))
    go_wp2_with (first
      | (go_at_call 46; refine (ownref_any (W := w) hl2 (HRD.out.below (belowN_ b0 m)) (belowN_ b0 m)).mono ?_; rintro e w2 ⟨A3, c3, rfl, ho2, hB2, hb2⟩; have HK := Lib.hid (HK.out.below hb2); obtain ⟨x0, x1, x2, f0, f1, f2⟩ := three HK.out)
      | fail)
    obtain ⟨k1, k2, k3⟩ := put3 HK.out (.int .i64 0) (.slice A3 p.2.length c3) (.int .i64 0)
    refine bodyPost_ret (results_cell_row rfl _ _ _ _ _ _ _ rfl k1 Try.underlying34 rfl (by kernel_rfl)) rfl ?_
    have h3 := k2 w (Nat.le_refl _) hB2
    exact ⟨A3, c3, rfl, k3 _ _ _ _ _ _ ho2 (by decide), h3, h3⟩
  · rw [if_neg hk, if_neg hk]
    have HE := Lib.hid (Mp.place_no hk)
    clear hk
    go_enter Try.func59, Try.ntmps59
    go_wp2_with fail
    refine (refKey_any _ (k := k) hn HB.out HBK.out (H.out.below b0) (H'.out.below b0)).mono ?_
    rintro e w1 ⟨rfl, m, rfl⟩
    rw [HE.out]
    have HK := Lib.hid ((Blk.new w 34 zeroR).below (belowN_d m))
    go_wp2_with (first
      | (go_at_call 49; refine (bad_any _ 5).mono ?_; rintro e w3 ⟨rfl, hb3⟩; unfold resV; have HK := Lib.hid (HK.out.below hb3); obtain ⟨x0, x1, x2, f0, f1, f2⟩ := three HK.out)
      | fail)
    obtain ⟨k1, k2, k3⟩ := put3 HK.out (.int .i64 5) (.slice none 0 0) (.int .i64 0)
    refine bodyPost_ret (results_cell_row rfl _ _ _ _ _ _ _ rfl k1 Try.underlying34 rfl (by kernel_rfl)) rfl ?_
    have hB3 := (belowN_ b0 m).trans (hb3.mono (belowN_ b0 m).size)
    have h3 := k2 w (Nat.le_refl _) hB3
    exact ⟨none, 0, rfl, own_nil _ _, h3, h3⟩
theorem refGet_any {W w : World} {ps : List Pr} {k : List Nat} {A A' : Option Addr} {n c n' c' B B' : Nat} (hn : n ≤ 100000) (hL : LimP ps) (hb : BytesP ps) (hbk : ∀ x ∈ k, x < 256) (h : RdP w B A n ps) (h' : Rd w B' A' n' (bv k)) (hB : Below W.heap.size W w) :
    Calls Try.prog 59 #[.slice A n c, .slice A' n' c'] w (GotR W w (Mp.getE ps k) (Mp.getV ps k) 0) :=
  (refGet_raw hn hL hb hbk h h').mono fun e w' ⟨A, c, h1, h2, h3, h4⟩ => ⟨A, c, h1, more_ hB.size h2, hB.trans (h3.mono hB.size), h4⟩
set_option maxHeartbeats 1000000 in
theorem samePairs_any (w : World) {A A' : Option Addr} {n c n' c' B B' : Nat} {ps : List Pr} (hn : n ≤ 100000) (hb : BytesP ps) (h : RdP w B A n ps) (h' : RdP w B' A' n' ps) :
    Calls Try.prog 23 #[.slice A n c, .slice A' n' c'] w fun e w' => e = .returned (.bool true) ∧ ∃ m, w' = w.drewN m := by
  obtain rfl : n = n' := h.length.symm.trans h'.length
  have H := Lib.hid h.fit
  have H' := Lib.hid h'.fit
  have HB := Lib.hid hb
  clear h h' hb
  go_enter Try.func23, Try.ntmps23
  go_wp2
  go_loopw [5] (fun i wr => ∃ j : Nat, j ≤ n ∧ i = .int .i64 j ∧ ∃ m, wr = w.drewN m) (fun i _ => n - (intOf i).toNat)
  case atStart => exact ⟨0, Nat.zero_le _, rfl, 0, rfl⟩
  case round =>
    obtain ⟨j, hj, rfl, m, hm⟩ := hrel
    have HM := Lib.hid hm
    by_cases hlt : j < n
    · obtain ⟨b, o, p, A1, c1, A2, c2, rfl, hp, hcell1, hcell2, hrd1, hrd2⟩ := H.out.at hlt
      obtain ⟨b', o', p', A3, c3, A4, c4, rfl, hp', hcell3, hcell4, hrd3, hrd4⟩ := H'.out.at hlt
      rw [hp] at hp'
      injection hp' with hp'
      subst hp'
      have q1 : wr.cell? ⟨b, o + j * 2, none⟩ = some (.slice A1 p.1.length c1) := by rw [hm]; exact hcell1
      have q2 : wr.cell? ⟨b, o + j * 2 + 1, none⟩ = some (.slice A2 p.2.length c2) := by rw [hm]; exact hcell2
      have q3 : wr.cell? ⟨b', o' + j * 2, none⟩ = some (.slice A3 p.1.length c3) := by rw [hm]; exact hcell3
      have q4 : wr.cell? ⟨b', o' + j * 2 + 1, none⟩ = some (.slice A4 p.2.length c4) := by rw [hm]; exact hcell4
      have hv : IntKind.i64.wrap ((j : Int) + 1) = (j : Int) + 1 := IntWalk.i64_in _ (by omega)
      have s1 : ∀ q, (convert 22 9 (.slice A1 p.1.length c1)).run Try.prog (wr.drewN q) = .ok (.string (strB p.1)) (wr.drewN q) := fun q => by rw [hm]; exact str_of (c := c1) ((hrd1.drewN m).drewN q)
      have s2 : ∀ q, (convert 22 9 (.slice A2 p.2.length c2)).run Try.prog (wr.drewN q) = .ok (.string (strB p.2)) (wr.drewN q) := fun q => by rw [hm]; exact str_of (c := c2) ((hrd2.drewN m).drewN q)
      have s3 : ∀ q, (convert 22 9 (.slice A3 p.1.length c3)).run Try.prog (wr.drewN q) = .ok (.string (strB p.1)) (wr.drewN q) := fun q => by rw [hm]; exact str_of (c := c3) ((hrd3.drewN m).drewN q)
      have s4 : ∀ q, (convert 22 9 (.slice A4 p.2.length c4)).run Try.prog (wr.drewN q) = .ok (.string (strB p.2)) (wr.drewN q) := fun q => by rw [hm]; exact str_of (c := c4) ((hrd4.drewN m).drewN q)
      have t1 : ((strB p.1).toList == (strB p.1).toList) = true := by simp
      have t2 : ((strB p.2).toList == (strB p.2).toList) = true := by simp
      clear hp hcell1 hcell2 hcell3 hcell4 hrd1 hrd2 hrd3 hrd4 hm
      go_wp2
      go_quiet (fail)
      go_wp2
      go_roundw
      case rel => exact ⟨j + 1, by omega, by go_num, m + nq, by rw [HM.out, World.drewN_drewN]⟩
      case measure => simp [intOf]; omega
    · clear hm
      go_wp2
      go_ret
      exact ⟨rfl, m, HM.out⟩
end Go.Proofs.Ytcmjpjhaaookfaa
