/- DiskOwnWalk -/
import Derived.Test.YtlfkgpllleogoaaDK29
import Derived.Test.YtlfkgpllleogoaaDK33
namespace Go.Proofs.Ytlfkgpllleogoaa
open Go.RowKit
set_option linter.unusedVariables false
theorem Dk.own_math (a b C : Int) : ∃ S1 S2 F1 F2 X, Dk.write [] [] 1 (a % 65536) 0 (-1) = (S1, []) ∧ Dk.write S1 [] 2 (b % 65536) 0 (-1) = (S1, S2) ∧ Dk.write S1 S2 3 0 0 C = (F1, F2) ∧ Dk.read S1 S2 = some X ∧ recC (some X) = #[.int .i64 2, .int .i64 (b % 65536), .int .i64 0] := by
  have i0 := Dk.Inv.start Dk.Rc.zero
  obtain ⟨w1, i1⟩ := i0.whole (by decide) 1 (a % 65536) 0 (cut := -1) (.inl (by decide))
  rw [if_neg (by decide)] at w1
  rw [w1] at i1
  obtain ⟨w2, i2⟩ := i1.whole (by decide) 2 (b % 65536) 0 (cut := -1) (.inl (by decide))
  rw [if_pos (by decide)] at w2
  rw [w2] at i2
  have r2 := i2.read
  rw [if_neg (by decide)] at r2
  refine ⟨_, _, _, _, _, w1, w2, Prod.ext rfl rfl, r2, ?_⟩
  show #[Value.int .i64 ((Dk.held 2 : Nat) : Int), Value.int .i64 ((Dk.held (b % 65536) : Nat) : Int), Value.int .i64 ((Dk.held 0 : Nat) : Int)] = _
  rw [Dk.held_id (z := b % 65536) (by omega) (by omega)]
  rfl
theorem disk_strB_size (l : List Nat) : (strB l).size = l.length := by unfold strB; rw [strOfNums_size, List.length_map]
/-- bytes of a row, of which any may be turned -/
def Bits (w : World) (base : Nat) (A : Option Addr) (n : Nat) : Prop := 0 < n → ∃ g, A = some ⟨g, 0, none⟩ ∧ Bytes8 w base g n
theorem Bits.set_ {w : World} {base n g i : Nat} {A : Option Addr} {x : Int} (h : Bits w base A n) (h0 : 0 ≤ x) (h1 : x < 256) : Bits (w.setCell ⟨g, i, none⟩ (.int .u8 x)) base A n := fun hn => by
  obtain ⟨g', e, hb⟩ := h hn
  exact ⟨g', e, hb.set_ h0 h1⟩
/-- what stays while a disk's bytes are turned -/
structure DT (wc wr : World) (g : Nat) (A A' : Option Addr) (n c n' c' : Nat) : Prop where
  bel : Below wc.heap.size wc wr
  blk : Blk wr g 44 #[.slice A n c, .slice A' n' c']
  a : Bits wr wc.heap.size A n
  b : Bits wr wc.heap.size A' n'
theorem DT.set_ {wc wr : World} {g b i m n c n' c' : Nat} {A A' : Option Addr} {x : Int} (h : DT wc wr g A A' n c n' c') (hb : Bytes8 wr wc.heap.size b m) (h0 : 0 ≤ x) (h1 : x < 256) : DT wc (wr.setCell ⟨b, i, none⟩ (.int .u8 x)) g A A' n c n' c' :=
  ⟨h.bel.setCell hb.1 _, h.blk.set_other (hb.apart h.blk (by decide)).symm, h.a.set_ h0 h1, h.b.set_ h0 h1⟩
set_option maxHeartbeats 4000000 in
set_option maxRecDepth 100000 in
theorem diskOwn_raw (w : World) (a b cz : Int) : Calls Try.prog 10 #[.int .i64 a, .int .i64 b, .int .i64 cz] w fun e w' => e = .returned (.bool true) ∧ Below w.heap.size w w' := by
  obtain ⟨S1, S2, F1, F2, X, hw1, hw2, hw3, hr, hrc⟩ := Dk.own_math a b (cz % 32)
  have HW1 := Lib.hid hw1
  have HW2 := Lib.hid hw2
  have HW3 := Lib.hid hw3
  have HR := Lib.hid hr
  have HRC := Lib.hid hrc
  have affff := and_ffff
  have a31 := and_31
  clear hw1 hw2 hw3 hr hrc
  go_enter Try.func10, Try.ntmps10
  go_upto_region 2 with (first
    | (go_at_call 26; refine ((OwnD.zero w w).write (W := w) (Below.refl _ _) HW1.out).mono ?_; rintro en w1 ⟨A1, d1, B1, e1, rfl, ho, hB, hb⟩
       have HO1 := Lib.hid ho
       have HB1 := Lib.hid hB
       have HBB := Lib.hid hb
       clear ho hB hb)
    | (refine wpList_store_row rfl 44 (.tmp 7) (.tmp 19) rfl w1.heap.size #[.slice A1 S1.length d1, .slice B1 0 e1] rfl rfl 44 #[.slice none 0 0, .slice none 0 0] (Blk.new w1 44 #[.slice none 0 0, .slice none 0 0]) (by kernel_rfl) rfl (by kernel_rfl) ?_)
    | fail)
  obtain ⟨g1, w2, hgE, hwE, hbE, hkE⟩ := boxed w1 #[.slice none 0 0, .slice none 0 0] #[.slice A1 S1.length d1, .slice B1 0 e1] 44
  rw [hgE, hwE]
  have HB12 := Lib.hid hbE
  have HK1 := Lib.hid hkE
  clear hgE hwE hbE hkE
  have HO1 := Lib.hid (HO1.out.below HB12.out)
  have HB2 := Lib.hid (HB1.out.trans (HB12.out.mono HB1.out.size))
  clear HB12 HB1 HBB
  go_upto_region 3 with (first
    | (refine wpList_load_row rfl  44 (.tmp 7) rfl g1 rfl 44 #[.slice A1 S1.length d1, .slice B1 0 e1] (0, 0) _ HK1.out Try.underlying44 rfl (by kernel_rfl) ?_)
    | (go_at_call 26; refine (HO1.out.write (W := w) HB2.out HW2.out).mono ?_; rintro en w3 ⟨A2, d2, B2, e2, rfl, ho, hB, hb⟩
       have HO2 := Lib.hid ho
       have HB3 := Lib.hid hB
       have HBB := Lib.hid hb
       clear ho hB hb)
    | (refine wpList_store_row rfl 44 (.tmp 8) (.tmp 24) rfl w3.heap.size #[.slice A2 S1.length d2, .slice B2 S2.length e2] rfl rfl 44 #[.slice none 0 0, .slice none 0 0] (Blk.new w3 44 #[.slice none 0 0, .slice none 0 0]) (by kernel_rfl) rfl (by kernel_rfl) ?_)
    | fail)
  obtain ⟨g2, w4, hgE, hwE, hbE, hkE⟩ := boxed w3 #[.slice none 0 0, .slice none 0 0] #[.slice A2 S1.length d2, .slice B2 S2.length e2] 44
  rw [hgE, hwE]
  have HB34 := Lib.hid hbE
  have HK2 := Lib.hid hkE
  clear hgE hwE hbE hkE
  have HO2 := Lib.hid (HO2.out.below HB34.out)
  have HB4 := Lib.hid (HB3.out.trans (HB34.out.mono HB3.out.size))
  clear HB34 HB3 HBB HK1 HO1
  have x0 : w4.cell? ⟨g2, 0, none⟩ = some (.slice A2 S1.length d2) := HK2.out.cell 0
  have x1 : w4.cell? ⟨g2, 1, none⟩ = some (.slice B2 S2.length e2) := HK2.out.cell 1
  have s1 : (convert 22 9 (.slice A2 S1.length d2)).run Try.prog w4 = .ok (.string (strB S1)) w4 := str_of (Rd.own_ HO2.out.a)
  have s2 : (convert 22 9 (.slice B2 S2.length e2)).run Try.prog w4 = .ok (.string (strB S2)) w4 := str_of (Rd.own_ HO2.out.b)
  have z1 : (strB S1).size ≤ 2000000 := by rw [disk_strB_size]; exact HO2.out.fa.2
  have z2 : (strB S2).size ≤ 2000000 := by rw [disk_strB_size]; exact HO2.out.fb.2
  go_upto_region 4 with fail
  clear x0 x1 s1 s2 z1 z2
  go_upto_region 5 with (first
    | (refine wpList_load_row rfl  44 (.tmp 8) rfl g2 rfl 44 #[.slice A2 S1.length d2, .slice B2 S2.length e2] (0, 0) _ HK2.out Try.underlying44 rfl (by kernel_rfl) ?_)
    | (go_at_call 26; refine (HO2.out.write (W := w4) (Below.refl _ _) HW3.out).mono ?_; rintro en w5 ⟨A3, d3, B3, e3, rfl, ho, hB, hb⟩
       have HO3 := Lib.hid ho
       have HB5 := Lib.hid hB
       have HBB := Lib.hid hb
       clear ho hB hb)
    | (refine wpList_store_row rfl 44 (.tmp 10) (.tmp 37) rfl w5.heap.size #[.slice A3 F1.length d3, .slice B3 F2.length e3] rfl rfl 44 #[.slice none 0 0, .slice none 0 0] (Blk.new w5 44 #[.slice none 0 0, .slice none 0 0]) (by kernel_rfl) rfl (by kernel_rfl) ?_)
    | fail)
  obtain ⟨g3, w6, hgE, hwE, hbE, hkE⟩ := boxed w5 #[.slice none 0 0, .slice none 0 0] #[.slice A3 F1.length d3, .slice B3 F2.length e3] 44
  rw [hgE, hwE]
  have HB56 := Lib.hid hbE
  have HK3 := Lib.hid hkE
  clear hgE hwE hbE hkE
  have HO3 := HO3.out.below HB56.out
  have hbb : Below w4.heap.size w4 w6 := HB5.out.trans (HB56.out.mono HB5.out.size)
  have HT : Hid (DT w4 w6 g3 A3 B3 F1.length d3 F2.length e3) := Lib.hid ⟨hbb, HK3.out, soft_own HO3.a HO3.fa.1, soft_own HO3.b HO3.fb.1⟩
  have HF1 : Hid (F1.length ≤ 2000000) := Lib.hid HO3.fa.2
  have HF2 : Hid (F2.length ≤ 2000000) := Lib.hid HO3.fb.2
  obtain ⟨n1, hn1⟩ : ∃ x, F1.length = x := ⟨_, rfl⟩
  obtain ⟨n2, hn2⟩ : ∃ x, F2.length = x := ⟨_, rfl⟩
  rw [hn1] at HF1
  rw [hn2] at HF2
  rw [hn1, hn2] at HT
  have x0 : w6.cell? ⟨g3, 0, none⟩ = some (.slice A3 n1 d3) := HT.out.blk.cell 0
  clear HO3 hbb HB5 HB56 HBB HK3 hn1 hn2 HW3 HW2 HW1
  go_wp2_with fail
  clear x0
  go_loopw [11, 41] (fun _ s41 wr => ∃ k : Nat, k ≤ n1 ∧ s41 = .int .i64 (k : Int) ∧ Hid (DT w4 wr g3 A3 B3 n1 d3 n2 e3)) (fun _ s41 _ => n1 - (intOf s41).toNat)
  case atStart => exact ⟨0, Nat.zero_le _, rfl, HT⟩
  case round =>
    clear HT
    obtain ⟨k, hk, rfl, HT⟩ := hrel
    by_cases hlt : k < n1
    · obtain ⟨gq, rfl, hg⟩ := HT.out.a (by omega)
      obtain ⟨hg1, hf, x, hx0, hx1, hc⟩ := hg.at hlt
      have hu := up8 x hx0 hx1
      have hwk : IntKind.i64.wrap ((k : Int) + 1) = (k : Int) + 1 := IntWalk.i64_in _ (by have := HF1.out; omega)
      have x0 : wr.cell? ⟨g3, 0, none⟩ = some (.slice (some ⟨gq, 0, none⟩) n1 d3) := HT.out.blk.cell 0
      have HS := Lib.hid (HT.out.set_ (i := k) hg (show 0 ≤ (x + 1) % 256 by omega) (by omega))
      clear HT hg hg1
      go_wp2_with fail
      go_roundw
      case rel => exact ⟨k + 1, by omega, by go_num, HS⟩
      case measure => simp only [intOf]; omega
    · obtain rfl : n1 = k := by omega
      clear hlt hk
      rename World => wy
      have x1 : wy.cell? ⟨g3, 1, none⟩ = some (.slice B3 n2 e3) := HT.out.blk.cell 1
      go_wp2_with fail
      clear x1
      go_loopw [12, 55] (fun _ s55 wr => ∃ k : Nat, k ≤ n2 ∧ s55 = .int .i64 (k : Int) ∧ Hid (DT w4 wr g3 A3 B3 n1 d3 n2 e3)) (fun _ s55 _ => n2 - (intOf s55).toNat)
      case atStart => exact ⟨0, Nat.zero_le _, rfl, HT⟩
      case round =>
        clear HT
        obtain ⟨k, hk, rfl, HT⟩ := hrel
        by_cases hlt : k < n2
        · obtain ⟨gq, rfl, hg⟩ := HT.out.b (by omega)
          obtain ⟨hg1, hf, x, hx0, hx1, hc⟩ := hg.at hlt
          have hu := up8 x hx0 hx1
          have hwk : IntKind.i64.wrap ((k : Int) + 1) = (k : Int) + 1 := IntWalk.i64_in _ (by have := HF2.out; omega)
          have x1 : wr.cell? ⟨g3, 1, none⟩ = some (.slice (some ⟨gq, 0, none⟩) n2 e3) := HT.out.blk.cell 1
          have HS := Lib.hid (HT.out.set_ (i := k) hg (show 0 ≤ (x + 1) % 256 by omega) (by omega))
          clear HT hg hg1
          go_wp2_with fail
          go_roundw
          case rel => exact ⟨k + 1, by omega, by go_num, HS⟩
          case measure => simp only [intOf]; omega
        · obtain rfl : n2 = k := by omega
          clear hlt hk
          rename World => wv
          have HK2 := Lib.hid (HK2.out.below HT.out.bel)
          have HO2 := Lib.hid (HO2.out.below HT.out.bel)
          have HBv := Lib.hid (HB4.out.trans (HT.out.bel.mono HB4.out.size))
          clear HT HB4
          go_upto_region 16 with (first
            | (refine wpList_load_row rfl  44 (.tmp 8) rfl g2 rfl 44 #[.slice A2 S1.length d2, .slice B2 S2.length e2] (0, 0) _ HK2.out Try.underlying44 rfl (by kernel_rfl) ?_)
            | (go_at_call 27; refine (HO2.out.read (W := w) HBv.out HR.out).mono ?_; rintro en wd ⟨he, hB, hb⟩
               have he2 : en = .returned (.tuple #[.agg #[.int .i64 2, .int .i64 (b % 65536), .int .i64 0], .bool true]) := by rw [he, HRC.out]; rfl
               clear he
               subst he2
               have HBd := Lib.hid hB
               have HBB := Lib.hid hb
               clear hB hb)
            | (refine wpList_store_row rfl 46 (.tmp 13) (.tmp 69) rfl wd.heap.size #[.int .i64 2, .int .i64 (b % 65536), .int .i64 0] rfl rfl 46 #[.int .i64 0, .int .i64 0, .int .i64 0] (Blk.new wd 46 #[.int .i64 0, .int .i64 0, .int .i64 0]) (by kernel_rfl) rfl (by kernel_rfl) ?_)
            | fail)
          obtain ⟨g13, we, hgE, hwE, hbE, hkE⟩ := boxed wd #[.int .i64 0, .int .i64 0, .int .i64 0] #[.int .i64 2, .int .i64 (b % 65536), .int .i64 0] 46
          rw [hgE, hwE]
          have HBc := Lib.hid hbE
          have HK13 := Lib.hid hkE
          clear hgE hwE hbE hkE
          have hbe : Below wv.heap.size wv we := HBB.out.trans (HBc.out.mono HBB.out.size)
          have HK2 := Lib.hid (HK2.out.below hbe)
          have HO2 := Lib.hid (HO2.out.below hbe)
          have HBe := Lib.hid (HBd.out.trans (HBc.out.mono HBd.out.size))
          have x2 : we.cell? ⟨g13, 0, none⟩ = some (.int .i64 2) := HK13.out.cell 0
          clear hbe HBB HBc HBd HBv
          have x0 : we.cell? ⟨g2, 0, none⟩ = some (.slice A2 S1.length d2) := HK2.out.cell 0
          have x1 : we.cell? ⟨g2, 1, none⟩ = some (.slice B2 S2.length e2) := HK2.out.cell 1
          have s1 : (convert 22 9 (.slice A2 S1.length d2)).run Try.prog we = .ok (.string (strB S1)) we := str_of (Rd.own_ HO2.out.a)
          have s2 : (convert 22 9 (.slice B2 S2.length e2)).run Try.prog we = .ok (.string (strB S2)) we := str_of (Rd.own_ HO2.out.b)
          have z1 : (strB S1).size ≤ 2000000 := by rw [disk_strB_size]; exact HO2.out.fa.2
          have z2 : (strB S2).size ≤ 2000000 := by rw [disk_strB_size]; exact HO2.out.fb.2
          go_wp2_with (first
            | (go_at_call 28; refine (diskAwake _).mono ?_; rintro e wz ⟨rfl, hBz⟩
               have HBz := Lib.hid (HBe.out.trans (hBz.mono HBe.out.size))
               clear hBz)
            | fail)
          go_ret
          exact ⟨rfl, HBz.out⟩
theorem diskOwn_walk (a0 : Int) (a1 : Int) (a2 : Int) (w : World) (w0 : (Lit.int .i64 a0).wf = true) (w1 : (Lit.int .i64 a1).wf = true) (w2 : (Lit.int .i64 a2).wf = true) : Calls Try.prog 10 #[.int .i64 a0, .int .i64 a1, .int .i64 a2] w fun e w' => e = .returned (.bool true) ∧ Below w.heap.size w w' := diskOwn_raw w a0 a1 a2
end Go.Proofs.Ytlfkgpllleogoaa

