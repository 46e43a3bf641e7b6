/- DiskOldOrNewWalk -/
import Derived.Test.YtlfkgpllleogoaaDK30
namespace Go.Proofs.Ytlfkgpllleogoaa
open Go.RowKit
set_option linter.unusedVariables false
/-- a record written behind k others, cut anywhere -/
theorem Dk.Inv.oldnew {k : Nat} {a b : List Nat} {x : Dk.Rc} (h : Dk.Inv k a b x) (hk : k < 1000) {P Q : Int} (hP : 0 ≤ P ∧ P < 16777216) (hQ : 0 ≤ Q ∧ Q < 16777216) : ∃ a' b' x' L, Dk.write a b 99 P Q (-1) = (a', b') ∧ recC (some x') = #[.int .i64 99, .int .i64 P, .int .i64 Q] ∧ decide (a' = a) = decide (k % 2 = 1) ∧ (if decide (k % 2 = 1) = true then b'.length else a'.length) = L ∧
    ∀ C : Nat, ∃ a2 b2, Dk.write a b 99 P Q (C : Int) = (a2, b2) ∧ Dk.read a2 b2 = if L ≤ C then some x' else Dk.read a b := by
  obtain ⟨hw, hi⟩ := h.whole hk 99 P Q (cut := -1) (.inl (by decide))
  obtain ⟨hd1, hd2⟩ := h.differs hk 99 P Q
  obtain ⟨ab, hab⟩ : ∃ ab, Dk.write a b 99 P Q (-1) = ab := ⟨_, rfl⟩
  rw [hab] at hw
  obtain ⟨a', b'⟩ := ab
  refine ⟨a', b', Dk.Inv.nx k 99 P Q, (Dk.slotR (Dk.Inv.nx k 99 P Q)).length, hab, ?_, ?_, ?_, fun C => ?_⟩
  · show #[Value.int .i64 ((Dk.held 99 : Nat) : Int), Value.int .i64 ((Dk.held P : Nat) : Int), Value.int .i64 ((Dk.held Q : Nat) : Int)] = _
    rw [Dk.held_id (by omega) (by omega), Dk.held_id hP.1 (by omega), Dk.held_id hQ.1 (by omega)]
  · by_cases h1 : k % 2 = 1
    · rw [if_pos h1] at hw
      injection hw with e1 e2
      simp [h1, e1]
    · rw [if_neg h1] at hw
      injection hw with e1 e2
      subst e1
      simp [h1]; exact hd2 (by omega)
  · by_cases h1 : k % 2 = 1
    · rw [if_pos h1] at hw
      injection hw with e1 e2
      rw [if_pos (decide_eq_true h1), e2]
    · rw [if_neg h1] at hw
      injection hw with e1 e2
      rw [if_neg (by simp [h1]), e1]
  · obtain ⟨ab2, hab2⟩ : ∃ ab, Dk.write a b 99 P Q (C : Int) = ab := ⟨_, rfl⟩
    obtain ⟨a2, b2⟩ := ab2
    refine ⟨a2, b2, hab2, ?_⟩
    by_cases hc : (Dk.slotR (Dk.Inv.nx k 99 P Q)).length ≤ C
    · obtain ⟨hw2, hi2⟩ := h.whole hk 99 P Q (cut := (C : Int)) (.inr (by omega))
      rw [hab2] at hi2
      have hr := hi2.read
      rw [if_neg (by omega)] at hr
      rw [if_pos hc]
      exact hr
    · have hr := (h.cut hk 99 P Q (cut := C) (by omega)).2
      rw [hab2] at hr
      rw [if_neg hc]
      exact hr
set_option maxHeartbeats 4000000 in
set_option maxRecDepth 100000 in
theorem diskOldOrNew_raw (w : World) (m cz : Int) {A0 : Option Addr} {n c0 B : Nat} {zs : List Int} (hn : n ≤ maxLen) (h : Rd w B A0 n (iv zs)) : Calls Try.prog 12 #[.slice A0 n c0, .int .i64 m, .int .i64 cz] w fun e w' => e = .returned (.bool true) ∧ Below w.heap.size w w' := by
  have hlen : zs.length = n := by have := h.1; rwa [iv_length] at this
  have H := Lib.hid h.fit
  have HL := Lib.hid hlen
  clear h hlen
  go_enter Try.func12, Try.ntmps12
  go_upto_region 2 with (first
    | (refine wpList_store_row rfl 44 (.tmp 7) (.tmp 15) rfl w.heap.size #[.slice none 0 0, .slice none 0 0] rfl rfl 44 #[.slice none 0 0, .slice none 0 0] (Blk.new w 44 #[.slice none 0 0, .slice none 0 0]) (by kernel_rfl) rfl (by kernel_rfl) ?_)
    | fail)
  obtain ⟨g, wa, hgE, hwE, hbE, hkE⟩ := boxed w #[.slice none 0 0, .slice none 0 0] #[.slice none 0 0, .slice none 0 0] 44
  rw [hgE, hwE]
  have HBa := Lib.hid hbE
  have HK := Lib.hid hkE
  have HGL : Hid (w.heap.size ≤ g) := Lib.hid (Nat.le_of_eq hgE)
  clear hgE hwE hbE hkE
  go_upto_region 3 with (first
    | (refine wpList_store_row rfl 46 (.tmp 8) (.tmp 16) rfl wa.heap.size #[.int .i64 0, .int .i64 0, .int .i64 0] rfl rfl 46 #[.int .i64 0, .int .i64 0, .int .i64 0] (Blk.new wa 46 #[.int .i64 0, .int .i64 0, .int .i64 0]) (by kernel_rfl) rfl (by kernel_rfl) ?_)
    | fail)
  obtain ⟨g8, wb, hgE, hwE, hbE, hkE⟩ := boxed wa #[.int .i64 0, .int .i64 0, .int .i64 0] #[.int .i64 0, .int .i64 0, .int .i64 0] 46
  rw [hgE, hwE]
  have HBb := Lib.hid hbE
  have HK8 := Lib.hid hkE
  have HGL8 : Hid (w.heap.size ≤ g8) := Lib.hid (by have := HBa.out.size; omega)
  clear hgE hwE hbE hkE
  have HK := Lib.hid (HK.out.below HBb.out)
  have HBb := Lib.hid (HBa.out.trans (HBb.out.mono HBa.out.size))
  clear HBa
  go_wp2_with fail
  go_loopw [9] (fun s9 wr => ∃ (k : Nat) (a b : List Nat) (x : Dk.Rc) (A A' : Option Addr) (c c' : Nat), k ≤ 10 ∧ k ≤ n ∧ s9 = .int .i64 (k : Int) ∧ Hid (Dk.Inv k a b x) ∧ Hid (OwnD w wr A A' c c' a b) ∧ Hid (Blk wr g 44 #[.slice A a.length c, .slice A' b.length c']) ∧ Hid (Blk wr g8 46 (recC (Dk.read a b))) ∧ Hid (Below w.heap.size w wr)) (fun s9 _ => 10 - (intOf s9).toNat)
  case atStart => exact ⟨0, [], [], Dk.Rc.zero, none, none, 0, 0, by omega, by omega, rfl, Lib.hid (Dk.Inv.start _), Lib.hid (OwnD.zero _ _), HK, HK8, HBb⟩
  case round =>
    clear HK HK8 HBb
    obtain ⟨k, a, b, x, A, A', c, c', hk, hkn, rfl, HI, HO, HK, HK8, HB⟩ := hrel
    obtain ⟨R, hR⟩ : ∃ r, Dk.read a b = r := ⟨_, rfl⟩
    have HR := Lib.hid hR
    rw [hR] at HK8
    clear hR
    obtain ⟨r0, r1, r2, hr012⟩ : ∃ r0 r1 r2 : Int, recC R = #[.int .i64 r0, .int .i64 r1, .int .i64 r2] := ⟨_, _, _, rfl⟩
    have HR012 := Lib.hid hr012
    rw [hr012] at HK8
    clear hr012
    have a255 := and_255
    have affff := and_ffff
    have a63 := and_63
    have a24 : ∀ n, bits .and .i64 n 16777215 = n % 16777216 := fun n => by simpa using and_mask n 24 (by omega)
    by_cases hlt : k < n ∧ k < 10
    · obtain ⟨hlt, hlt2⟩ := hlt
      obtain ⟨bl, o, rfl, _⟩ := H.out.int_at hlt
      obtain ⟨z, hz⟩ : ∃ z, zs[k]? = some z := ⟨_, List.getElem?_eq_getElem (by have := HL.out; omega)⟩
      have hc := (H.out.below HB.out).int_cell hlt hz
      clear hz
      obtain ⟨a', b', x', a4, b4, hw1, hi1, hr1, hrc1, _⟩ := HI.out.turn (by omega) (P := z % 65536) (Q := z / 65536 % 256) (by omega) (by omega)
      have HI1 := Lib.hid hi1
      have HW1 := Lib.hid hw1
      have HR1 := Lib.hid hr1
      have HRC1 := Lib.hid hrc1
      clear hi1 hw1 hr1 hrc1
      obtain ⟨y0, y1, y2, f0, f1, f2⟩ := three HK8.out
      go_upto_region 6 with fail
      go_region
      obtain ⟨p1, p2, p3⟩ := put3 HK8.out (.int .i64 ((k : Int) + 1)) (.int .i64 (z % 65536)) (.int .i64 (z / 65536 % 256))
      have hne : g ≠ g8 := HK.out.apart HK8.out (by decide)
      have p4 := ((HK.out.set_other (i := 0) (u := .int .i64 ((k : Int) + 1)) hne).set_other (i := 1) (u := .int .i64 (z % 65536)) hne).set_other (i := 2) (u := .int .i64 (z / 65536 % 256)) hne
      have HK8 := Lib.hid p1.drew
      have HK := Lib.hid p4.drew
      have HB := Lib.hid ((p2 w HGL8.out HB.out).trans ⟨rfl, rfl, rfl, Nat.le_refl _, fun _ _ => rfl⟩ : Below w.heap.size w (((wr.setCell ⟨g8, 0, none⟩ (.int .i64 ((k : Int) + 1))).setCell ⟨g8, 1, none⟩ (.int .i64 (z % 65536))).setCell ⟨g8, 2, none⟩ (.int .i64 (z / 65536 % 256))).drew)
      have hdr : Below (((wr.setCell ⟨g8, 0, none⟩ (.int .i64 ((k : Int) + 1))).setCell ⟨g8, 1, none⟩ (.int .i64 (z % 65536))).setCell ⟨g8, 2, none⟩ (.int .i64 (z / 65536 % 256))).heap.size (((wr.setCell ⟨g8, 0, none⟩ (.int .i64 ((k : Int) + 1))).setCell ⟨g8, 1, none⟩ (.int .i64 (z % 65536))).setCell ⟨g8, 2, none⟩ (.int .i64 (z / 65536 % 256))) (((wr.setCell ⟨g8, 0, none⟩ (.int .i64 ((k : Int) + 1))).setCell ⟨g8, 1, none⟩ (.int .i64 (z % 65536))).setCell ⟨g8, 2, none⟩ (.int .i64 (z / 65536 % 256))).drew := ⟨rfl, rfl, rfl, Nat.le_refl _, fun _ _ => rfl⟩
      have HO := Lib.hid (⟨own_below (p3 _ _ _ _ _ _ HO.out.a (by decide)) hdr, own_below (p3 _ _ _ _ _ _ HO.out.b (by decide)) hdr, HO.out.fa, HO.out.fb⟩ : OwnD w (((wr.setCell ⟨g8, 0, none⟩ (.int .i64 ((k : Int) + 1))).setCell ⟨g8, 1, none⟩ (.int .i64 (z % 65536))).setCell ⟨g8, 2, none⟩ (.int .i64 (z / 65536 % 256))).drew A A' c c' a b)
      clear p1 p2 p3 p4 hdr y0 y1 y2 f0 f1 f2 hc
      generalize (((wr.setCell ⟨g8, 0, none⟩ (.int .i64 ((k : Int) + 1))).setCell ⟨g8, 1, none⟩ (.int .i64 (z % 65536))).setCell ⟨g8, 2, none⟩ (.int .i64 (z / 65536 % 256))).drew = w5 at HK HK8 HB HO ⊢
      go_wp2_with (first
        | (refine wpList_load_row rfl  44 (.tmp 7) rfl g rfl 44 #[.slice A a.length c, .slice A' b.length c'] (0, 0) _ HK.out Try.underlying44 rfl (by kernel_rfl) ?_)
        | (refine wpList_load_row rfl  46 (.tmp 8) rfl g8 rfl 46 #[.int .i64 ((k : Int) + 1), .int .i64 (z % 65536), .int .i64 (z / 65536 % 256)] (0, 0) _ HK8.out Try.underlying46 rfl (by kernel_rfl) ?_)
        | (go_at_call 26; refine (HO.out.write (W := w) HB.out HW1.out).mono ?_; rintro en w6 ⟨A1, d1, B1, e1, rfl, ho, hB, hb⟩
           have HO1 := Lib.hid ho
           have HB6 := Lib.hid hB
           have HBB := Lib.hid hb
           have HK := Lib.hid (HK.out.below hb)
           have HK8 := Lib.hid (HK8.out.below hb)
           clear ho hB hb)
        | (refine wpList_store_row rfl 44 (.tmp 7) (.tmp 43) rfl g #[.slice A1 a'.length d1, .slice B1 b'.length e1] rfl rfl 44 #[.slice A a.length c, .slice A' b.length c'] HK.out (by kernel_rfl) rfl (by kernel_rfl) ?_)
        | fail)
      go_roundw
      case rel =>
        have e : recC (Dk.read a' b') = #[.int .i64 ((k : Int) + 1), .int .i64 (z % 65536), .int .i64 (z / 65536 % 256)] := by rw [HR1.out, HRC1.out]
        have k8 := HK8.out.row_other (cs := #[.slice A1 a'.length d1, .slice B1 b'.length e1]) (g := g) hne.symm
        rw [← e] at k8
        exact ⟨k + 1, a', b', x', A1, B1, d1, e1, by omega, by omega, by go_num, HI1, Lib.hid (HO1.out.row HK.out (by decide)), Lib.hid (HK.out.row _), Lib.hid k8, Lib.hid (below_setRow HB6.out HGL.out _)⟩
      case measure => simp [intOf]; omega
    · obtain ⟨a', b', x', L, hw1, hrc1, hd1, hL, hcut⟩ := HI.out.oldnew (by omega) (P := m % 16777216) (Q := m / 16777216 % 256) (by omega) (by omega)
      obtain ⟨C, hC⟩ : ∃ C : Nat, cz % 64 = (C : Int) := ⟨(cz % 64).toNat, by omega⟩
      obtain ⟨a2, b2, hw2, hr2⟩ := hcut C
      rw [HR.out] at hr2
      obtain ⟨R2, hR2⟩ : ∃ r, Dk.read a2 b2 = r := ⟨_, rfl⟩
      rw [hR2] at hr2
      have hRk : R = if k = 0 then none else some x := by rw [← HR.out]; exact HI.out.read
      obtain ⟨E, hE⟩ : ∃ e, decide (k % 2 = 1) = e := ⟨_, rfl⟩
      rw [hE] at hd1 hL
      obtain ⟨s2, hs2⟩ : ∃ s, R2.isSome = s := ⟨_, rfl⟩
      obtain ⟨q0, q1, q2, hq012⟩ : ∃ q0 q1 q2 : Int, recC R2 = #[.int .i64 q0, .int .i64 q1, .int .i64 q2] := ⟨_, _, _, rfl⟩
      have HW1 := Lib.hid hw1
      have HRC1 := Lib.hid hrc1
      have HD1 := Lib.hid hd1
      have HLL := Lib.hid hL
      have HW2 := Lib.hid hw2
      have HR2 := Lib.hid hr2
      have HRD2 := Lib.hid hR2
      have HRK := Lib.hid hRk
      have HS2 := Lib.hid hs2
      have HQ := Lib.hid hq012
      have HKN : Hid (n = 0 ↔ k = 0) := Lib.hid (by omega)
      clear hw1 hrc1 hd1 hL hcut hw2 hr2 hR2 hRk hE hs2 hq012
      have hx : ¬ k < n ∨ (k < n ∧ ¬ k < 10) := by omega
      clear hlt
      rcases hx with h1 | ⟨h1, h2⟩
      all_goals
        go_upto_region 9 with (first
          | (refine wpList_store_row rfl 46 (.tmp 10) (.tmp 49) rfl wr.heap.size #[.int .i64 99, .int .i64 (m % 16777216), .int .i64 (m / 16777216 % 256)] rfl rfl 46 #[.int .i64 0, .int .i64 0, .int .i64 0] (Blk.new wr 46 #[.int .i64 0, .int .i64 0, .int .i64 0]) (by kernel_rfl) rfl (by kernel_rfl) ?_)
          | fail)
        obtain ⟨g10, w5, hgE, hwE, hbE, hkE⟩ := boxed wr #[.int .i64 0, .int .i64 0, .int .i64 0] #[.int .i64 99, .int .i64 (m % 16777216), .int .i64 (m / 16777216 % 256)] 46
        rw [hgE, hwE]
        have HBc := Lib.hid hbE
        have HK10 := Lib.hid hkE
        clear hgE hwE hbE hkE
        have HK := Lib.hid (HK.out.below HBc.out)
        have HK8 := Lib.hid (HK8.out.below HBc.out)
        have HO := Lib.hid (HO.out.below HBc.out)
        have HB5 := Lib.hid (HB.out.trans (HBc.out.mono HB.out.size))
        clear HBc HB
        go_upto_region 10 with (first
          | (refine wpList_load_row rfl  44 (.tmp 7) rfl g rfl 44 #[.slice A a.length c, .slice A' b.length c'] (0, 0) _ HK.out Try.underlying44 rfl (by kernel_rfl) ?_)
          | (refine wpList_load_row rfl  46 (.tmp 10) rfl g10 rfl 46 #[.int .i64 99, .int .i64 (m % 16777216), .int .i64 (m / 16777216 % 256)] (0, 0) _ HK10.out Try.underlying46 rfl (by kernel_rfl) ?_)
          | (go_at_call 26; refine (HO.out.write (W := w) HB5.out HW1.out).mono ?_; rintro en w6 ⟨A1, d1, B1, e1, rfl, ho, hB, hb⟩
             have HO1 := Lib.hid ho
             have HB6 := Lib.hid hB
             have HBB := Lib.hid hb
             clear ho hB hb)
          | (refine wpList_store_row rfl 44 (.tmp 11) (.tmp 52) rfl w6.heap.size #[.slice A1 a'.length d1, .slice B1 b'.length e1] rfl rfl 44 #[.slice none 0 0, .slice none 0 0] (Blk.new w6 44 #[.slice none 0 0, .slice none 0 0]) (by kernel_rfl) rfl (by kernel_rfl) ?_)
          | fail)
        obtain ⟨g11, w7, hgE, hwE, hbE, hkE⟩ := boxed w6 #[.slice none 0 0, .slice none 0 0] #[.slice A1 a'.length d1, .slice B1 b'.length e1] 44
        rw [hgE, hwE]
        have HBc := Lib.hid hbE
        have HK11 := Lib.hid hkE
        clear hgE hwE hbE hkE
        have hb7 : Below w5.heap.size w5 w7 := HBB.out.trans (HBc.out.mono HBB.out.size)
        have HK := Lib.hid (HK.out.below hb7)
        have HK8 := Lib.hid (HK8.out.below hb7)
        have HK10 := Lib.hid (HK10.out.below hb7)
        have HO := Lib.hid (HO.out.below hb7)
        have HO1 := Lib.hid (HO1.out.below HBc.out)
        have HB7 := Lib.hid (HB6.out.trans (HBc.out.mono HB6.out.size))
        clear hb7 HBB HBc HB6 HB5
        have x0 : w7.cell? ⟨g, 0, none⟩ = some (.slice A a.length c) := HK.out.cell 0
        have x2 : w7.cell? ⟨g11, 0, none⟩ = some (.slice A1 a'.length d1) := HK11.out.cell 0
        have x3 : w7.cell? ⟨g11, 1, none⟩ = some (.slice B1 b'.length e1) := HK11.out.cell 1
        have s1 : (convert 22 9 (.slice A a.length c)).run Try.prog w7 = .ok (.string (strB a)) w7 := str_of (Rd.own_ HO.out.a)
        have s3 : (convert 22 9 (.slice A1 a'.length d1)).run Try.prog w7 = .ok (.string (strB a')) w7 := str_of (Rd.own_ HO1.out.a)
        have q1 : (strB a' == strB a) = E := by rw [strB_eq HO1.out.fa.1 HO.out.fa.1, HD1.out]
        have q3 : ((strB a').toList == (strB a).toList) = E := by rw [strL_eq HO1.out.fa.1 HO.out.fa.1, HD1.out]
        have hl := HLL.out
        clear HD1 HLL HW1
        obtain ⟨la, hla⟩ : ∃ x, a'.length = x := ⟨_, rfl⟩
        obtain ⟨lb, hlb⟩ : ∃ x, b'.length = x := ⟨_, rfl⟩
        cases E
        all_goals
          first | rw [if_pos rfl] at hl | rw [if_neg (by decide)] at hl
          have HL2 := Lib.hid hl
          clear hl hla hlb
          go_upto_region 13 with fail
          rw [HL2.out]
          clear x0 x2 x3 s1 s3 q1 q3 HL2
          go_upto_region 15 with (first
            | (refine wpList_load_row rfl  44 (.tmp 7) rfl g rfl 44 #[.slice A a.length c, .slice A' b.length c'] (0, 0) _ HK.out Try.underlying44 rfl (by kernel_rfl) ?_)
            | (refine wpList_load_row rfl  46 (.tmp 10) rfl g10 rfl 46 #[.int .i64 99, .int .i64 (m % 16777216), .int .i64 (m / 16777216 % 256)] (0, 0) _ HK10.out Try.underlying46 rfl (by kernel_rfl) ?_)
            | (go_at_call 26; refine (HO.out.write (W := w) HB7.out HW2.out).mono ?_; rintro en w8 ⟨A2, d2, B2, e2, rfl, ho, hB, hb⟩
               have HO2 := Lib.hid ho
               have HB8 := Lib.hid hB
               have HBB := Lib.hid hb
               clear ho hB hb)
            | (go_at_call 27; refine (HO2.out.read (W := w) HB8.out HRD2.out).mono ?_; rintro en w9 ⟨he, hB, hb⟩
               have he2 : en = .returned (.tuple #[.agg #[.int .i64 q0, .int .i64 q1, .int .i64 q2], .bool s2]) := by rw [he, HQ.out, HS2.out]
               clear he
               subst he2
               have HB9 := Lib.hid hB
               have HBB := Lib.hid (HBB.out.trans (hb.mono HBB.out.size))
               clear hB hb)
            | (refine wpList_store_row rfl 46 (.tmp 13) (.tmp 74) rfl w9.heap.size #[.int .i64 q0, .int .i64 q1, .int .i64 q2] rfl rfl 46 #[.int .i64 0, .int .i64 0, .int .i64 0] (Blk.new w9 46 #[.int .i64 0, .int .i64 0, .int .i64 0]) (by kernel_rfl) rfl (by kernel_rfl) ?_)
            | fail)
          obtain ⟨g13, wa, hgE, hwE, hbE, hkE⟩ := boxed w9 #[.int .i64 0, .int .i64 0, .int .i64 0] #[.int .i64 q0, .int .i64 q1, .int .i64 q2] 46
          rw [hgE, hwE]
          have HBc := Lib.hid hbE
          have HK13 := Lib.hid hkE
          clear hgE hwE hbE hkE
          have hb7 : Below w7.heap.size w7 wa := HBB.out.trans (HBc.out.mono HBB.out.size)
          have HK8 := Lib.hid (HK8.out.below hb7)
          have HK10 := Lib.hid (HK10.out.below hb7)
          have HBa := Lib.hid (HB9.out.trans (HBc.out.mono HB9.out.size))
          clear hb7 HBB HBc HB9 HB8 HB7 HO HO1 HO2 HK HK11
          have hq := HQ.out
          have hrc := HRC1.out
          have hs := HS2.out
          have hr := HR2.out
          by_cases hge : L ≤ C
          · rw [if_pos hge] at hr
            rw [hr] at hq hs
            rw [hrc] at hq
            injection hq with hq
            simp only [List.cons.injEq, Value.int.injEq, true_and, and_true] at hq
            obtain ⟨rfl, rfl, rfl⟩ := hq
            have hs' : s2 = true := hs.symm
            subst hs'
            have hge2 : (L : Int) ≤ (C : Int) := by omega
            clear hr hs hrc
            go_upto_region 16 with fail
            go_wp2_with (first
              | (refine wpList_load_rowV (by first | rfl | kernel_rfl) 46 (.tmp 13) rfl g13 rfl 46 #[.int .i64 99, .int .i64 (m % 16777216), .int .i64 (m / 16777216 % 256)] (0, 0) _ HK13.out Try.underlying46 rfl (by kernel_rfl) ?_)
              | (refine wpList_load_rowV (by first | rfl | kernel_rfl) 46 (.tmp 10) rfl g10 rfl 46 #[.int .i64 99, .int .i64 (m % 16777216), .int .i64 (m / 16777216 % 256)] (0, 0) _ HK10.out Try.underlying46 rfl (by kernel_rfl) ?_)
              | (go_at_call 28; refine (diskAwake _).mono ?_; rintro e wz ⟨rfl, hBz⟩
                 have HBz := Lib.hid (HBa.out.trans (hBz.mono HBa.out.size))
                 clear hBz)
              | fail)
            go_ret
            exact ⟨rfl, HBz.out⟩
          · rw [if_neg hge] at hr
            have hge2 : ¬ (L : Int) ≤ (C : Int) := by omega
            by_cases hk0 : k = 0
            · have hn0 := HKN.out.2 hk0
              have hrk := HRK.out
              rw [if_pos hk0] at hrk
              rw [hr, hrk] at hq hs
              have hq' : #[Value.int .i64 0, Value.int .i64 0, Value.int .i64 0] = #[Value.int .i64 q0, Value.int .i64 q1, Value.int .i64 q2] := hq
              injection hq' with hq'
              simp only [List.cons.injEq, Value.int.injEq, true_and, and_true] at hq'
              obtain ⟨rfl, rfl, rfl⟩ := hq'
              have hs' : s2 = false := hs.symm
              subst hs'
              have hn1 : ((n : Int) == 0) = true := by simp; omega
              clear hr hs hrc hrk hq
              go_upto_region 18 with fail
              go_wp2_with (first
                | (refine wpList_load_rowV (by first | rfl | kernel_rfl) 46 (.tmp 13) rfl g13 rfl 46 #[.int .i64 0, .int .i64 0, .int .i64 0] (0, 0) _ HK13.out Try.underlying46 rfl (by kernel_rfl) ?_)
                | (go_at_call 28; refine (diskAwake _).mono ?_; rintro e wz ⟨rfl, hBz⟩
                   have HBz := Lib.hid (HBa.out.trans (hBz.mono HBa.out.size))
                   clear hBz)
                | fail)
              go_ret
              exact ⟨rfl, HBz.out⟩
            · have hn0 : ¬ n = 0 := fun h => hk0 (HKN.out.1 h)
              have hrk := HRK.out
              rw [if_neg hk0] at hrk
              rw [hr, HR012.out] at hq
              injection hq with hq
              simp only [List.cons.injEq, Value.int.injEq, true_and, and_true] at hq
              obtain ⟨rfl, rfl, rfl⟩ := hq
              rw [hr, hrk] at hs
              have hs' : s2 = true := hs.symm
              subst hs'
              have hn1 : ((n : Int) == 0) = false := by simp; omega
              clear hr hs hrc hrk
              go_upto_region 19 with fail
              go_wp2_with (first
                | (refine wpList_load_rowV (by first | rfl | kernel_rfl) 46 (.tmp 13) rfl g13 rfl 46 #[.int .i64 r0, .int .i64 r1, .int .i64 r2] (0, 0) _ HK13.out Try.underlying46 rfl (by kernel_rfl) ?_)
                | (refine wpList_load_rowV (by first | rfl | kernel_rfl) 46 (.tmp 8) rfl g8 rfl 46 #[.int .i64 r0, .int .i64 r1, .int .i64 r2] (0, 0) _ HK8.out Try.underlying46 rfl (by kernel_rfl) ?_)
                | (go_at_call 28; refine (diskAwake _).mono ?_; rintro e wz ⟨rfl, hBz⟩
                   have HBz := Lib.hid (HBa.out.trans (hBz.mono HBa.out.size))
                   clear hBz)
                | fail)
              go_ret
              exact ⟨rfl, HBz.out⟩
theorem diskOldOrNew_walk (a0 : Option Addr) (len0 cap0 : Nat) (z0 : List Int) (a1 : Int) (a2 : Int) (w : World) (w0 : IsRow .i64 w a0 len0 cap0 z0) (w1 : (Lit.int .i64 a1).wf = true) (w2 : (Lit.int .i64 a2).wf = true) : Calls Try.prog 12 #[.slice a0 len0 cap0, .int .i64 a1, .int .i64 a2] w fun e w' => e = .returned (.bool true) ∧ Below w.heap.size w w' := by
  have h := w0.ints
  exact diskOldOrNew_raw w a1 a2 (Nat.le_trans h.2.2.1 h.2.2.2) h.1
end Go.Proofs.Ytlfkgpllleogoaa

