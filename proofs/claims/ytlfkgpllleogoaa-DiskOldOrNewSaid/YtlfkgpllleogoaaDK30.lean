/- DiskTurnsWalk -/
import Derived.Test.YtlfkgpllleogoaaDK29
import Derived.BigQuiet
import Derived.Deep.DrawnRows
namespace Go.Proofs.Ytlfkgpllleogoaa
open Go.RowKit
set_option linter.unusedVariables false
/-- a record written behind k others -/
theorem Dk.Inv.turn {k : Nat} {a b : List Nat} {x : Dk.Rc} (h : Dk.Inv k a b x) (hk : k < 1000) {P Q : Int} (hP : 0 ≤ P ∧ P < 16777216) (hQ : 0 ≤ Q ∧ Q < 16777216) : ∃ a' b' x' a4 b4, Dk.write a b ((k : Int) + 1) P Q (-1) = (a', b') ∧ Dk.Inv (k + 1) a' b' x' ∧ Dk.read a' b' = some x' ∧ recC (some x') = #[.int .i64 ((k : Int) + 1), .int .i64 P, .int .i64 Q] ∧ decide (a' = a) = decide (k % 2 = 1) ∧ decide (b' = b) = !decide (k % 2 = 1) ∧
    Dk.write a b ((k : Int) + 1) P Q 4 = (a4, b4) ∧ Dk.read a4 b4 = Dk.read a b := by
  obtain ⟨hw, hi⟩ := h.whole hk ((k : Int) + 1) P Q (cut := -1) (.inl (by decide))
  obtain ⟨hd1, hd2⟩ := h.differs hk ((k : Int) + 1) P Q
  have hl := (Dk.slotR_len (Dk.Inv.nx k ((k : Int) + 1) P Q)).1
  obtain ⟨hw4, hr4⟩ := h.cut hk ((k : Int) + 1) P Q (cut := 4) (by omega)
  have hr := hi.read
  rw [if_neg (by omega)] at hr
  obtain ⟨ab, hab⟩ : ∃ ab, Dk.write a b ((k : Int) + 1) P Q (-1) = ab := ⟨_, rfl⟩
  obtain ⟨ab4, hab4⟩ : ∃ ab, Dk.write a b ((k : Int) + 1) P Q 4 = ab := ⟨_, rfl⟩
  have hr4' : Dk.read (Dk.write a b ((k : Int) + 1) P Q 4).1 (Dk.write a b ((k : Int) + 1) P Q 4).2 = Dk.read a b := hr4
  rw [hab] at hw hi hr
  rw [hab4] at hr4'
  obtain ⟨a', b'⟩ := ab
  obtain ⟨a4, b4⟩ := ab4
  refine ⟨a', b', _, a4, b4, hab, hi, hr, ?_, ?_, ?_, hab4, hr4'⟩
  · show #[Value.int .i64 ((Dk.held ((k : Int) + 1) : Nat) : Int), Value.int .i64 ((Dk.held P : Nat) : Int), Value.int .i64 ((Dk.held Q : Nat) : Int)] = _
    rw [Dk.held_id (by omega) (by omega), Dk.held_id hP.1 (by omega), Dk.held_id hQ.1 (by omega)]
  · by_cases h1 : k % 2 = 1
    · rw [if_pos h1] at hw
      injection hw with e1 e2
      simp [h1, e1]
    · rw [if_neg h1] at hw
      injection hw with e1 e2
      subst e1
      simp [h1]; exact hd2 (by omega)
  · by_cases h1 : k % 2 = 1
    · rw [if_pos h1] at hw
      injection hw with e1 e2
      subst e2
      simp [h1]; exact hd1 h1
    · rw [if_neg h1] at hw
      injection hw with e1 e2
      simp [h1, e2]
set_option maxHeartbeats 4000000 in
set_option maxRecDepth 100000 in
theorem diskTurns_raw (w : World) {A0 : Option Addr} {n c0 B : Nat} {zs : List Int} (hn : n ≤ maxLen) (h : Rd w B A0 n (iv zs)) : Calls Try.prog 8 #[.slice A0 n c0] w fun e w' => e = .returned (.bool true) ∧ Below w.heap.size w w' := by
  have hlen : zs.length = n := by have := h.1; rwa [iv_length] at this
  have H := Lib.hid h.fit
  have HL := Lib.hid hlen
  clear h hlen
  go_enter Try.func8, Try.ntmps8
  go_upto_region 2 with (first
    | (refine wpList_store_row rfl 44 (.tmp 3) (.tmp 16) rfl w.heap.size #[.slice none 0 0, .slice none 0 0] rfl rfl 44 #[.slice none 0 0, .slice none 0 0] (Blk.new w 44 #[.slice none 0 0, .slice none 0 0]) (by kernel_rfl) rfl (by kernel_rfl) ?_)
    | fail)
  obtain ⟨g, wa, hgE, hwE, hbE, hkE⟩ := boxed w #[.slice none 0 0, .slice none 0 0] #[.slice none 0 0, .slice none 0 0] 44
  rw [hgE, hwE]
  have HBa := Lib.hid hbE
  have HK := Lib.hid hkE
  have HGL : Hid (w.heap.size ≤ g) := Lib.hid (Nat.le_of_eq hgE)
  clear hgE hwE hbE hkE
  go_wp2_with fail
  go_loopw [4, 5, 6, 7, 8, 9, 10, 11, 12, 13, 14, 15] (fun s4 _ _ _ _ _ _ _ _ _ _ _ wr => ∃ (k : Nat) (a b : List Nat) (x : Dk.Rc) (A A' : Option Addr) (c c' : Nat), k ≤ 20 ∧ s4 = .int .i64 (k : Int) ∧ Hid (Dk.Inv k a b x) ∧ Hid (OwnD w wr A A' c c' a b) ∧ Hid (Blk wr g 44 #[.slice A a.length c, .slice A' b.length c']) ∧ Hid (Below w.heap.size w wr)) (fun s4 _ _ _ _ _ _ _ _ _ _ _ _ => 20 - (intOf s4).toNat)
  case atStart => exact ⟨0, [], [], Dk.Rc.zero, none, none, 0, 0, by omega, rfl, Lib.hid (Dk.Inv.start _), Lib.hid (OwnD.zero _ _), HK, HBa⟩
  case round =>
    clear HK HBa
    obtain ⟨k, a, b, x, A, A', c, c', hk, rfl, HI, HO, HK, HB⟩ := hrel
    by_cases hlt : k < n
    · by_cases hlt2 : k < 20
      · obtain ⟨bl, o, rfl, _⟩ := H.out.int_at hlt
        obtain ⟨z, hz⟩ : ∃ z, zs[k]? = some z := ⟨_, List.getElem?_eq_getElem (by have := HL.out; omega)⟩
        have hc := (H.out.below HB.out).int_cell hlt hz
        have hca : (wr.alloc (.cells #[.int .i64 0, .int .i64 0, .int .i64 0] 46)).cell? ⟨bl, o + k, none⟩ = some (.int .i64 z) := (((Below.refl wr.heap.size wr).alloc (Nat.le_refl _) _).cell (p := ⟨bl, o + k, none⟩) (World.block_lt_of_cell? _ _ hc)).trans hc
        clear hz
        obtain ⟨a', b', x', a4, b4, hw1, hi1, hr1, hrc1, hd1, hd2, hw4, hr4⟩ := HI.out.turn (by omega) (P := z % 65536) (Q := z / 65536 % 256) (by omega) (by omega)
        obtain ⟨R, hR⟩ : ∃ r, Dk.read a b = r := ⟨_, rfl⟩
        rw [hR] at hr4
        obtain ⟨s0, hs0⟩ : ∃ s, R.isSome = s := ⟨_, rfl⟩
        obtain ⟨r0, r1, r2, hr012⟩ : ∃ r0 r1 r2 : Int, recC R = #[.int .i64 r0, .int .i64 r1, .int .i64 r2] := ⟨_, _, _, rfl⟩
        obtain ⟨E, hE⟩ : ∃ e, decide (k % 2 = 1) = e := ⟨_, rfl⟩
        rw [hE] at hd1 hd2
        have hk1 : ((k : Int) % 2 == 1) = E := by rw [← hE, Bool.eq_iff_iff]; simp; omega
        have a255 := and_255
        have affff := and_ffff
        have a1 := and_1
        have HI1 := Lib.hid hi1
        have HW1 := Lib.hid hw1
        have HR1 := Lib.hid hr1
        have HRC1 := Lib.hid hrc1
        have HD1 := Lib.hid hd1
        have HD2 := Lib.hid hd2
        have HW4 := Lib.hid hw4
        have HR4 := Lib.hid hr4
        have HR := Lib.hid hR
        have HS0 := Lib.hid hs0
        have HR012 := Lib.hid hr012
        clear hi1 hw1 hr1 hrc1 hd1 hd2 hw4 hr4 hR hs0 hr012 hE
        go_upto_region 5 with fail
        go_region
        have hb5 : Below wr.heap.size wr (wr.alloc (.cells #[.int .i64 ((k : Int) + 1), .int .i64 (z % 65536), .int .i64 (z / 65536 % 256)] 46)).drew := ((Below.refl _ _).alloc (Nat.le_refl _) _).trans ⟨rfl, rfl, rfl, Nat.le_refl _, fun _ _ => rfl⟩
        have hk5 : Blk (wr.alloc (.cells #[.int .i64 ((k : Int) + 1), .int .i64 (z % 65536), .int .i64 (z / 65536 % 256)] 46)).drew wr.heap.size 46 #[.int .i64 ((k : Int) + 1), .int .i64 (z % 65536), .int .i64 (z / 65536 % 256)] := (Blk.new wr 46 #[.int .i64 ((k : Int) + 1), .int .i64 (z % 65536), .int .i64 (z / 65536 % 256)]).drew
        obtain ⟨g5, hg5⟩ : ∃ x, wr.heap.size = x := ⟨_, rfl⟩
        rw [hg5] at hk5 ⊢
        generalize (wr.alloc (.cells #[.int .i64 ((k : Int) + 1), .int .i64 (z % 65536), .int .i64 (z / 65536 % 256)] 46)).drew = w5 at hb5 hk5 ⊢
        have HK5 := Lib.hid hk5
        have HK := Lib.hid (HK.out.below hb5)
        have HO := Lib.hid (HO.out.below hb5)
        have HBr := Lib.hid (HB.out.trans (hb5.mono HB.out.size))
        have HB5 := Lib.hid hb5
        clear hk5 hg5 hc hca HB
        go_upto_region 7 with (first
          | (refine wpList_load_row rfl  44 (.tmp 3) rfl g rfl 44 #[.slice A a.length c, .slice A' b.length c'] (0, 0) _ HK.out Try.underlying44 rfl (by kernel_rfl) ?_)
          | (refine wpList_load_row rfl  46 (.tmp 5) rfl g5 rfl 46 #[.int .i64 ((k : Int) + 1), .int .i64 (z % 65536), .int .i64 (z / 65536 % 256)] (0, 0) _ HK5.out Try.underlying46 rfl (by kernel_rfl) ?_)
          | (go_at_call 26; refine (HO.out.write (W := w) HBr.out HW1.out).mono ?_; rintro en w6 ⟨A1, d1, B1, e1, rfl, ho, hB, hb⟩
             have HO1 := Lib.hid ho
             have HB6 := Lib.hid hB
             have HBB := Lib.hid hb
             clear ho hB hb)
          | (refine wpList_store_row rfl 44 (.tmp 6) (.tmp 43) rfl w6.heap.size #[.slice A1 a'.length d1, .slice B1 b'.length e1] rfl rfl 44 #[.slice none 0 0, .slice none 0 0] (Blk.new w6 44 #[.slice none 0 0, .slice none 0 0]) (by kernel_rfl) rfl (by kernel_rfl) ?_)
          | fail)
        obtain ⟨g6, w7, hgE, hwE, hbE, hkE⟩ := boxed w6 #[.slice none 0 0, .slice none 0 0] #[.slice A1 a'.length d1, .slice B1 b'.length e1] 44
        rw [hgE, hwE]
        have HBc := Lib.hid hbE
        have HK6 := Lib.hid hkE
        clear hgE hwE hbE hkE
        have hb7 : Below w5.heap.size w5 w7 := HBB.out.trans (HBc.out.mono HBB.out.size)
        have HK := Lib.hid (HK.out.below hb7)
        have HK5 := Lib.hid (HK5.out.below hb7)
        have HO := Lib.hid (HO.out.below hb7)
        have HO1 := Lib.hid (HO1.out.below HBc.out)
        have HB7 := Lib.hid (HB6.out.trans (HBc.out.mono HB6.out.size))
        have x0 : w7.cell? ⟨g, 0, none⟩ = some (.slice A a.length c) := HK.out.cell 0
        have x1 : w7.cell? ⟨g, 1, none⟩ = some (.slice A' b.length c') := HK.out.cell 1
        have x2 : w7.cell? ⟨g6, 0, none⟩ = some (.slice A1 a'.length d1) := HK6.out.cell 0
        have x3 : w7.cell? ⟨g6, 1, none⟩ = some (.slice B1 b'.length e1) := HK6.out.cell 1
        have s1 : ∀ q, (convert 22 9 (.slice A a.length c)).run Try.prog (w7.drewN q) = .ok (.string (strB a)) (w7.drewN q) := fun q => str_of ((Rd.own_ HO.out.a).drewN q)
        have s2 : ∀ q, (convert 22 9 (.slice A' b.length c')).run Try.prog (w7.drewN q) = .ok (.string (strB b)) (w7.drewN q) := fun q => str_of ((Rd.own_ HO.out.b).drewN q)
        have s3 : ∀ q, (convert 22 9 (.slice A1 a'.length d1)).run Try.prog (w7.drewN q) = .ok (.string (strB a')) (w7.drewN q) := fun q => str_of ((Rd.own_ HO1.out.a).drewN q)
        have s4 : ∀ q, (convert 22 9 (.slice B1 b'.length e1)).run Try.prog (w7.drewN q) = .ok (.string (strB b')) (w7.drewN q) := fun q => str_of ((Rd.own_ HO1.out.b).drewN q)
        have q1 : (strB a' == strB a) = E := by rw [strB_eq HO1.out.fa.1 HO.out.fa.1, HD1.out]
        have q2 : (strB b' == strB b) = !E := by rw [strB_eq HO1.out.fb.1 HO.out.fb.1, HD2.out]
        have q3 : ((strB a').toList == (strB a).toList) = E := by rw [strL_eq HO1.out.fa.1 HO.out.fa.1, HD1.out]
        have q4 : ((strB b').toList == (strB b).toList) = !E := by rw [strL_eq HO1.out.fb.1 HO.out.fb.1, HD2.out]
        clear hb7 HBB HBc HB6
        go_quiet (fail)
        have hq : Below w7.heap.size w7 (w7.drewN nq) := (Below.refl _ _).trans ⟨rfl, rfl, rfl, Nat.le_refl _, fun _ _ => rfl⟩
        have HK := Lib.hid (HK.out.below hq)
        have HK5 := Lib.hid (HK5.out.below hq)
        have HK6 := Lib.hid (HK6.out.below hq)
        have HO := Lib.hid (HO.out.below hq)
        have HO1 := Lib.hid (HO1.out.below hq)
        have HB7 := Lib.hid (HB7.out.trans (hq.mono HB7.out.size))
        clear x0 x1 x2 x3 s1 s2 s3 s4 q1 q2 q3 q4
        generalize w7.drewN nq = w8 at hq HK HK5 HK6 HO HO1 HB7 ⊢
        clear hq
        go_upto_region 9 with (first
          | (refine wpList_load_row rfl  44 (.tmp 6) rfl g6 rfl 44 #[.slice A1 a'.length d1, .slice B1 b'.length e1] (0, 0) _ HK6.out Try.underlying44 rfl (by kernel_rfl) ?_)
          | (go_at_call 27; refine (HO1.out.read (W := w) HB7.out HR1.out).mono ?_; rintro en w9 ⟨he, hB, hb⟩
             have he2 : en = .returned (.tuple #[.agg #[.int .i64 ((k : Int) + 1), .int .i64 (z % 65536), .int .i64 (z / 65536 % 256)], .bool true]) := by rw [he]; rw [HRC1.out]; rfl
             clear he
             subst he2
             have HB9 := Lib.hid hB
             have HBB := Lib.hid hb
             clear hB hb)
          | (refine wpList_store_row rfl 46 (.tmp 9) (.tmp 61) rfl w9.heap.size #[.int .i64 ((k : Int) + 1), .int .i64 (z % 65536), .int .i64 (z / 65536 % 256)] rfl rfl 46 #[.int .i64 0, .int .i64 0, .int .i64 0] (Blk.new w9 46 #[.int .i64 0, .int .i64 0, .int .i64 0]) (by kernel_rfl) rfl (by kernel_rfl) ?_)
          | fail)
        obtain ⟨g9, wa, hgE, hwE, hbE, hkE⟩ := boxed w9 #[.int .i64 0, .int .i64 0, .int .i64 0] #[.int .i64 ((k : Int) + 1), .int .i64 (z % 65536), .int .i64 (z / 65536 % 256)] 46
        rw [hgE, hwE]
        have HBc := Lib.hid hbE
        have HK9 := Lib.hid hkE
        clear hgE hwE hbE hkE
        have hba : Below w8.heap.size w8 wa := HBB.out.trans (HBc.out.mono HBB.out.size)
        have HK := Lib.hid (HK.out.below hba)
        have HK5 := Lib.hid (HK5.out.below hba)
        have HK6 := Lib.hid (HK6.out.below hba)
        have HO := Lib.hid (HO.out.below hba)
        have HO1 := Lib.hid (HO1.out.below hba)
        have HBa := Lib.hid (HB9.out.trans (HBc.out.mono HB9.out.size))
        clear hba HBB HBc HB9 HB7
        go_cut [81] from 63 to 80 (fun s81 wx => s81 = .bool false ∧ wx = wa)
        case first =>
          cases E
          all_goals
            go_wp2_with (first
              | (refine wpList_load_rowV (by first | rfl | kernel_rfl) 46 (.tmp 9) rfl g9 rfl 46 #[.int .i64 ((k : Int) + 1), .int .i64 (z % 65536), .int .i64 (z / 65536 % 256)] (0, 0) _ HK9.out Try.underlying46 rfl (by kernel_rfl) ?_)
              | (refine wpList_load_rowV (by first | rfl | kernel_rfl) 46 (.tmp 5) rfl g5 rfl 46 #[.int .i64 ((k : Int) + 1), .int .i64 (z % 65536), .int .i64 (z / 65536 % 256)] (0, 0) _ HK5.out Try.underlying46 rfl (by kernel_rfl) ?_)
              | fail)
            go_meet
            exact ⟨rfl, rfl⟩
        case rest =>
          obtain ⟨rfl, rfl⟩ := hcut
          rename World => wa
          go_upto_region 12 with (first
            | (refine wpList_load_row rfl  44 (.tmp 3) rfl g rfl 44 #[.slice A a.length c, .slice A' b.length c'] (0, 0) _ HK.out Try.underlying44 rfl (by kernel_rfl) ?_)
            | (refine wpList_load_row rfl  46 (.tmp 5) rfl g5 rfl 46 #[.int .i64 ((k : Int) + 1), .int .i64 (z % 65536), .int .i64 (z / 65536 % 256)] (0, 0) _ HK5.out Try.underlying46 rfl (by kernel_rfl) ?_)
            | (go_at_call 26; refine (HO.out.write (W := w) HBa.out HW4.out).mono ?_; rintro en wb ⟨A2, d2, B2, e2, rfl, ho, hB, hb⟩
               have HO2 := Lib.hid ho
               have HBb := Lib.hid hB
               have HBB := Lib.hid hb
               clear ho hB hb)
            | (refine wpList_store_row rfl 44 (.tmp 11) (.tmp 84) rfl wb.heap.size #[.slice A2 a4.length d2, .slice B2 b4.length e2] rfl rfl 44 #[.slice none 0 0, .slice none 0 0] (Blk.new wb 44 #[.slice none 0 0, .slice none 0 0]) (by kernel_rfl) rfl (by kernel_rfl) ?_)
            | fail)
          obtain ⟨g11, wc, hgE, hwE, hbE, hkE⟩ := boxed wb #[.slice none 0 0, .slice none 0 0] #[.slice A2 a4.length d2, .slice B2 b4.length e2] 44
          rw [hgE, hwE]
          have HBc := Lib.hid hbE
          have HK11 := Lib.hid hkE
          clear hgE hwE hbE hkE
          have hbc : Below wa.heap.size wa wc := HBB.out.trans (HBc.out.mono HBB.out.size)
          have HK := Lib.hid (HK.out.below hbc)
          have HK6 := Lib.hid (HK6.out.below hbc)
          have HO := Lib.hid (HO.out.below hbc)
          have HO1 := Lib.hid (HO1.out.below hbc)
          have HO2 := Lib.hid (HO2.out.below HBc.out)
          have HBw := Lib.hid (HBb.out.trans (HBc.out.mono HBb.out.size))
          clear hbc HBB HBc HBb HBa HK5 HK9
          go_upto_region 13 with (first
            | (refine wpList_load_row rfl  44 (.tmp 11) rfl g11 rfl 44 #[.slice A2 a4.length d2, .slice B2 b4.length e2] (0, 0) _ HK11.out Try.underlying44 rfl (by kernel_rfl) ?_)
            | (go_at_call 27; refine (HO2.out.read (W := w) HBw.out HR4.out).mono ?_; rintro en wd ⟨he, hB, hb⟩
               have he2 : en = .returned (.tuple #[.agg #[.int .i64 r0, .int .i64 r1, .int .i64 r2], .bool s0]) := by rw [he]; rw [HR012.out, HS0.out]
               clear he
               subst he2
               have HBd := Lib.hid hB
               have HBB := Lib.hid hb
               clear hB hb)
            | (refine wpList_store_row rfl 46 (.tmp 12) (.tmp 88) rfl wd.heap.size #[.int .i64 r0, .int .i64 r1, .int .i64 r2] rfl rfl 46 #[.int .i64 0, .int .i64 0, .int .i64 0] (Blk.new wd 46 #[.int .i64 0, .int .i64 0, .int .i64 0]) (by kernel_rfl) rfl (by kernel_rfl) ?_)
            | fail)
          obtain ⟨g12, we, hgE, hwE, hbE, hkE⟩ := boxed wd #[.int .i64 0, .int .i64 0, .int .i64 0] #[.int .i64 r0, .int .i64 r1, .int .i64 r2] 46
          rw [hgE, hwE]
          have HBc := Lib.hid hbE
          have HK12 := Lib.hid hkE
          clear hgE hwE hbE hkE
          have hbc : Below wc.heap.size wc we := HBB.out.trans (HBc.out.mono HBB.out.size)
          have HK := Lib.hid (HK.out.below hbc)
          have HK6 := Lib.hid (HK6.out.below hbc)
          have HO := Lib.hid (HO.out.below hbc)
          have HO1 := Lib.hid (HO1.out.below hbc)
          have HBe := Lib.hid (HBd.out.trans (HBc.out.mono HBd.out.size))
          clear hbc HBB HBc HBd HBw HO2 HK11
          go_upto_region 14 with (first
            | (refine wpList_load_row rfl  44 (.tmp 3) rfl g rfl 44 #[.slice A a.length c, .slice A' b.length c'] (0, 0) _ HK.out Try.underlying44 rfl (by kernel_rfl) ?_)
            | (go_at_call 27; refine (HO.out.read (W := w) HBe.out HR.out).mono ?_; rintro en wf ⟨he, hB, hb⟩
               have he2 : en = .returned (.tuple #[.agg #[.int .i64 r0, .int .i64 r1, .int .i64 r2], .bool s0]) := by rw [he]; rw [HR012.out, HS0.out]
               clear he
               subst he2
               have HBf := Lib.hid hB
               have HBB := Lib.hid hb
               clear hB hb)
            | (refine wpList_store_row rfl 46 (.tmp 14) (.tmp 93) rfl wf.heap.size #[.int .i64 r0, .int .i64 r1, .int .i64 r2] rfl rfl 46 #[.int .i64 0, .int .i64 0, .int .i64 0] (Blk.new wf 46 #[.int .i64 0, .int .i64 0, .int .i64 0]) (by kernel_rfl) rfl (by kernel_rfl) ?_)
            | fail)
          obtain ⟨g14, wg, hgE, hwE, hbE, hkE⟩ := boxed wf #[.int .i64 0, .int .i64 0, .int .i64 0] #[.int .i64 r0, .int .i64 r1, .int .i64 r2] 46
          rw [hgE, hwE]
          have HBc := Lib.hid hbE
          have HK14 := Lib.hid hkE
          clear hgE hwE hbE hkE
          have hbc : Below we.heap.size we wg := HBB.out.trans (HBc.out.mono HBB.out.size)
          have HK := Lib.hid (HK.out.below hbc)
          have HK6 := Lib.hid (HK6.out.below hbc)
          have HK12 := Lib.hid (HK12.out.below hbc)
          have HO1 := Lib.hid (HO1.out.below hbc)
          have HBg := Lib.hid (HBf.out.trans (HBc.out.mono HBf.out.size))
          clear hbc HBB HBc HBf HBe HO
          go_upto_region 16 with (first
            | (refine wpList_load_rowV (by first | rfl | kernel_rfl) 46 (.tmp 12) rfl g12 rfl 46 #[.int .i64 r0, .int .i64 r1, .int .i64 r2] (0, 0) _ HK12.out Try.underlying46 rfl (by kernel_rfl) ?_)
            | (refine wpList_load_rowV (by first | rfl | kernel_rfl) 46 (.tmp 14) rfl g14 rfl 46 #[.int .i64 r0, .int .i64 r1, .int .i64 r2] (0, 0) _ HK14.out Try.underlying46 rfl (by kernel_rfl) ?_)
            | fail)
          go_wp2_with (first
            | (refine wpList_load_row rfl  44 (.tmp 6) rfl g6 rfl 44 #[.slice A1 a'.length d1, .slice B1 b'.length e1] (0, 0) _ HK6.out Try.underlying44 rfl (by kernel_rfl) ?_)
            | (refine wpList_store_row rfl 44 (.tmp 3) (.tmp 103) rfl g #[.slice A1 a'.length d1, .slice B1 b'.length e1] rfl rfl 44 #[.slice A a.length c, .slice A' b.length c'] HK.out (by kernel_rfl) rfl (by kernel_rfl) ?_)
            | fail)
          go_roundw
          case rel => exact ⟨k + 1, a', b', x', A1, B1, d1, e1, by omega, by go_num, HI1, Lib.hid (HO1.out.row HK.out (by decide)), Lib.hid (HK.out.row _), Lib.hid (below_setRow HBg.out HGL.out _)⟩
          case measure => simp [intOf]; omega
      · go_wp2_with (go_at_call 28; refine (diskAwake _).mono ?_; rintro e w6 ⟨rfl, hB6⟩)
        go_ret
        exact ⟨rfl, HB.out.trans (hB6.mono HB.out.size)⟩
    · go_wp2_with (go_at_call 28; refine (diskAwake _).mono ?_; rintro e w6 ⟨rfl, hB6⟩)
      go_ret
      exact ⟨rfl, HB.out.trans (hB6.mono HB.out.size)⟩
theorem diskTurns_walk (a0 : Option Addr) (len0 cap0 : Nat) (z0 : List Int) (w : World) (w0 : IsRow .i64 w a0 len0 cap0 z0) : Calls Try.prog 8 #[.slice a0 len0 cap0] w fun e w' => e = .returned (.bool true) ∧ Below w.heap.size w w' := by
  have h := w0.ints
  exact diskTurns_raw w (Nat.le_trans h.2.2.1 h.2.2.2) h.1
end Go.Proofs.Ytlfkgpllleogoaa

