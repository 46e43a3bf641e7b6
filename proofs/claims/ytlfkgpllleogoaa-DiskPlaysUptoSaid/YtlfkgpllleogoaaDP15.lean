/- Seal -/
import Derived.Test.YtlfkgpllleogoaaDP06
import Derived.Test.YtlfkgpllleogoaaDP10
import Derived.Test.YtlfkgpllleogoaaDP11
import Derived.Test.YtlfkgpllleogoaaDP13
import Derived.Test.YtlfkgpllleogoaaDP14
import Derived.BigQuiet
import Derived.Deep.CutBlock
import Derived.Deep.DeepCutAuto
import Derived.OwnWalk
import Derived.WalkSpells
namespace Go.Proofs.Ytlfkgpllleogoaa
open Go.RowKit
set_option linter.unusedVariables false
set_option maxHeartbeats 2000000 in
set_option maxRecDepth 100000 in
theorem seallay_raw {w : World} {A : Option Addr} {n c B : Nat} {l : List Nat} (hl : ∀ x ∈ l, x < 256) (hn : l.length ≤ 2000000) (h : Rd w B A n (bv l)) : Calls Try.prog 52 #[.slice A n c] w (GotIn w w (Fr.lay l)) := by
  have hln := h.length
  have C := Lib.hid (frsum_any (W := w) (c := c) hl (by unfold maxLen; omega) h (Below.refl _ _))
  have HH := Lib.hid h.fit
  have HN : Hid (n ≤ 2000000) := Lib.hid (by omega)
  obtain ⟨s, hs⟩ : ∃ s, Crc.sum l = s := ⟨_, rfl⟩
  have HLL : Hid (4 + n = (Fr.lay l).length) := Lib.hid (by rw [Fr.lay_len, hln])
  have HLE : Hid (Fr.lay l = Fr.four s ++ l) := Lib.hid (by unfold Fr.lay; rw [hs])
  rw [hs] at C
  obtain ⟨L, hL⟩ : ∃ x, Fr.lay l = x := ⟨_, rfl⟩
  rw [hL] at HLL HLE ⊢
  clear hl hn h hs hln hL
  go_enter Try.func52, Try.ntmps52
  go_wp2_with (first
    | (go_at_call 71; refine C.out.mono ?_; rintro en w2 ⟨A2, c2, he, ho2, hB2, hb2⟩
       have he2 : en = .returned (.slice A2 4 c2) := he
       have ho2' : OwnB w w2 A2 4 c2 (Fr.four s) := ho2
       clear he ho2
       subst he2
       have HS := Lib.hid ho2'
       have HB2 := Lib.hid hB2
       have HH2 := Lib.hid (HH.out.below hb2)
       clear ho2' hB2 hb2)
    | (at_builtin
       refine wpList_append_bytes (W := w) byteT (.tmp 4) (.tmp 5) rfl (by rfl) rfl HS.out rfl HH2.out (by have := HN.out; omega) HB2.out ?_
       intro A3 c3 w3 ho3 hr3 hB3
       have HO3 := Lib.hid ho3
       have HB3 := Lib.hid hB3
       clear ho3 hr3 hB3)
    | fail)
  go_ret
  refine ⟨A3, c3, by rw [← HLL.out]; rfl, ?_, HB3.out, HB3.out⟩
  rw [← HLL.out, HLE.out]
  exact HO3.out
theorem seallay {W w : World} {A : Option Addr} {n c B : Nat} {l L : List Nat} (he : Fr.lay l = L) (hl : ∀ x ∈ l, x < 256) (hn : l.length ≤ 2000000) (h : Rd w B A n (bv l)) (hB : Below W.heap.size W w) : Calls Try.prog 52 #[.slice A n c] w (GotIn W w L) := by
  subst he
  exact (seallay_raw hl hn h).mono fun e w' ⟨A, c, h1, h2, h3, h4⟩ => ⟨A, c, h1, own_of hB.size h2, hB.trans (h3.mono hB.size), h4⟩
set_option maxHeartbeats 2000000 in
set_option maxRecDepth 100000 in
theorem seallift_raw {w : World} {A : Option Addr} {n c B : Nat} {l : List Nat} (hb : ∀ x ∈ l, x < 256) (hl : l.length ≤ 2000000) (hc : n ≤ c) (h : Rd w B A n (bv l)) : Calls Try.prog 53 #[.slice A n c] w (GotU w w (Fr.unf l)) := by
  have hn := h.length
  have HRZ := Lib.hid h.fit
  have HL := Lib.hid hl
  have HBY := Lib.hid hb
  obtain ⟨i9, hi1, hi2, hi3, hi4⟩ := info_parts byteT.info
  clear hi2 hi4
  have HI1 := Lib.hid hi1
  have HI3 := Lib.hid hi3
  clear hl hb hi1 hi3 h
  by_cases h4 : n < 4
  · have hr : Fr.unf l = none := by unfold Fr.unf; rw [if_pos (by omega)]
    have HR := Lib.hid hr
    clear hn hr
    go_enter Try.func53, Try.ntmps53
    go_wp2
    go_ret2
    rw [HR.out]
    exact ⟨none, 0, rfl, own_nil _ _, Below.refl _ _, Below.refl _ _⟩
  · have HR4 : Hid (Rd w w.heap.size (cutAt A c 4) (n - 4) (bv (l.drop 4))) := Lib.hid (by rw [bv_drop]; exact (HRZ.out.drop (by omega) hc).fit)
    have HRT : Hid (Rd w w.heap.size A 4 (bv (l.take 4))) := Lib.hid (by rw [bv_take]; exact (HRZ.out.take (by omega)).fit)
    have HD : Hid (∀ x ∈ l.drop 4, x < 256) := Lib.hid (fun x hx => HBY.out x (List.mem_of_mem_drop hx))
    have HT : Hid (∀ x ∈ l.take 4, x < 256) := Lib.hid (fun x hx => HBY.out x (List.mem_of_mem_take hx))
    have HDL : Hid (n - 4 ≤ 2000000) := Lib.hid (by have := HL.out; omega)
    have HOP : Hid (Fr.unf l = if l.take 4 = Fr.four (Crc.sum (l.drop 4)) then some (l.drop 4) else none) := Lib.hid (by unfold Fr.unf; rw [if_neg (by omega)])
    have hs1 : ∀ w : World, (Instr.slice 22 (.slice A n c) none (some (.int .i64 4)) none).run Try.prog w = .ok (.slice A 4 c) w := fun w => run_slice_to (P := Try.prog) (t := 22) byteT.under HI1.out A n c 4 (by omega) w
    have hs2 : ∀ w : World, (Instr.slice 22 (.slice A n c) (some (.int .i64 4)) none none).run Try.prog w = .ok (.slice (cutAt A c 4) (n - 4) (c - 4)) w := fun w => run_slice_from (P := Try.prog) (t := 22) byteT.under HI1.out HI3.out A n c 4 (by omega) w
    clear hn hc HL HBY
    obtain ⟨T, hT⟩ : ∃ x, l.take 4 = x := ⟨_, rfl⟩
    obtain ⟨D, hD⟩ : ∃ x, l.drop 4 = x := ⟨_, rfl⟩
    obtain ⟨AD, hAD⟩ : ∃ x, cutAt A c 4 = x := ⟨_, rfl⟩
    obtain ⟨X, hX⟩ : ∃ x, Fr.unf l = x := ⟨_, rfl⟩
    rw [hX] at HOP ⊢
    rw [hT, hD] at HOP
    rw [hT] at HRT HT
    rw [hD] at HR4 HD
    rw [hAD] at HR4 hs2
    clear hT hD hX hAD
    go_enter Try.func53, Try.ntmps53
    go_upto_region 3 with fail
    go_quiet (fail)
    have hbd : Below w.heap.size w (w.drewN nq) := (Below.refl w.heap.size w).trans ⟨rfl, rfl, rfl, Nat.le_refl _, fun _ _ => rfl⟩
    have HR4 := Lib.hid (HR4.out.below hbd)
    have HRT := Lib.hid (HRT.out.below hbd)
    have HBD := Lib.hid hbd
    generalize w.drewN nq = wd at hbd HR4 HRT HBD ⊢
    clear hbd hs1 hs2
    have CS : Hid (Calls Try.prog 71 #[.slice AD (n - 4) (c - 4)] wd (GotIn w wd (Fr.four (Crc.sum D)))) := Lib.hid (frsum_any HD.out (by have := HDL.out; unfold maxLen; omega) HR4.out HBD.out)
    by_cases he : T = Fr.four (Crc.sum D)
    · have hd : decide (T = Fr.four (Crc.sum D)) = true := by simpa using he
      have hXd : X = some D := by rw [HOP.out, if_pos he]
      have HX := Lib.hid hXd
      clear he hXd HOP
      go_wp2_with (first
        | (go_at_call 71; refine CS.out.mono ?_; rintro en w2 ⟨A2, c2, he2, ho2, hB2, hb2⟩
           have he3 : en = .returned (.slice A2 4 c2) := he2
           have ho3 : OwnB w w2 A2 4 c2 (Fr.four (Crc.sum D)) := ho2
           clear he2 ho2
           subst he3
           have HS := Lib.hid (Rd.own_ ho3)
           have HB2 := Lib.hid hB2
           have HR42 := Lib.hid (HR4.out.below (hb2.mono HBD.out.size))
           have HRT2 := Lib.hid (HRT.out.below (hb2.mono HBD.out.size))
           clear ho3 hB2 hb2)
        | (go_at_call 40; refine (equal_any _ _ _ _ _ _ _ _ _ T (Fr.four (Crc.sum D)) HT.out (Fr.four_lt _) HRT2.out HS.out).mono ?_; rintro en wq ⟨rfl, rfl⟩; rw [hd])
        | (go_at_call 58; refine (clone_any (W := w) (by have := HDL.out; unfold Lim; omega) HR42.out HB2.out).mono ?_; rintro en w3 ⟨A3, c3, rfl, ho3, hB3, hb3⟩
           have HO3 := Lib.hid ho3
           have HB3 := Lib.hid hB3
           clear ho3 hB3 hb3)
        | fail)
      go_ret2
      rw [HX.out]
      exact ⟨A3, c3, rfl, HO3.out, HB3.out, HB3.out⟩
    · have hd : decide (T = Fr.four (Crc.sum D)) = false := by simpa using he
      have hXd : X = none := by rw [HOP.out, if_neg he]
      have HX := Lib.hid hXd
      clear he hXd HOP
      go_wp2_with (first
        | (go_at_call 71; refine CS.out.mono ?_; rintro en w2 ⟨A2, c2, he2, ho2, hB2, hb2⟩
           have he3 : en = .returned (.slice A2 4 c2) := he2
           have ho3 : OwnB w w2 A2 4 c2 (Fr.four (Crc.sum D)) := ho2
           clear he2 ho2
           subst he3
           have HS := Lib.hid (Rd.own_ ho3)
           have HB2 := Lib.hid hB2
           have HRT2 := Lib.hid (HRT.out.below (hb2.mono HBD.out.size))
           clear ho3 hB2 hb2)
        | (go_at_call 40; refine (equal_any _ _ _ _ _ _ _ _ _ T (Fr.four (Crc.sum D)) HT.out (Fr.four_lt _) HRT2.out HS.out).mono ?_; rintro en wq ⟨rfl, rfl⟩; rw [hd])
        | fail)
      go_ret2
      rw [HX.out]
      exact ⟨none, 0, rfl, own_nil _ _, HB2.out, HB2.out⟩
theorem seallift {W w : World} {A : Option Addr} {n c B : Nat} {l : List Nat} {r : Option (List Nat)} (he : Fr.unf l = r) (hb : ∀ x ∈ l, x < 256) (hl : l.length ≤ 2000000) (hc : n ≤ c) (h : Rd w B A n (bv l)) (hB : Below W.heap.size W w) : Calls Try.prog 53 #[.slice A n c] w (GotU W w r) := by
  subst he
  exact (seallift_raw hb hl hc h).mono fun e w' ⟨A, c, h1, h2, h3, h4⟩ => ⟨A, c, h1, own_of hB.size h2, hB.trans (h3.mono hB.size), h4⟩
end Go.Proofs.Ytlfkgpllleogoaa

