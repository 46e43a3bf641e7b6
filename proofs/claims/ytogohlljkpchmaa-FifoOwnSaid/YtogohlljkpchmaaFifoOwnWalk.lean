/- FifoOwn: the walk. -/
import Derived.Test.YtogohlljkpchmaaFifoOrderCore
import Derived.Test.YtogohlljkpchmaaFifoAwake
import Derived.Test.YtogohlljkpchmaaSoftKit
import Derived.Deep.CutBlock
namespace Go.Proofs.Ytogohlljkpchmaa
open Go.RowKit
set_option linter.unusedVariables false
theorem one_push {w wr w1 : World} {A A'' : Option Addr} {n c n'' c'' B : Nat} {qs : List (List Nat)} {v : List Nat} (h : One w wr A n c qs) (hb : Below wr.heap.size wr w1) (hl : v.length ≤ 16) (hr : Rd w1 B A'' n'' (bv v)) (h8 : n < 8) :
    Calls Try.prog 7 #[.slice A n c, .slice A'' n'' c''] w1 fun e w' => ∃ A1 c1 A2 c2, e = .returned (.tuple #[.slice A1 (n + 1) c1, .agg #[.int .i64 0, .slice A2 0 c2, .int .i64 ((n : Int) + 1)]]) ∧ OwnQ w1 w' A1 (n + 1) c1 (qs ++ [v]) ∧ Below w1.heap.size w1 w' := by
  have h12 := h.few
  have hn := hr.length
  have hq := h.r1.length
  have e1 : pushS qs v = qs ++ [v] := by unfold pushS; rw [if_neg (by omega), if_neg (by omega)]
  have e2 : pushE qs v = 0 := by unfold pushE; rw [if_neg (by omega), if_neg (by omega)]
  have e3 : pushN qs v = (n : Int) + 1 := by unfold pushN; rw [if_neg (by omega), if_neg (by omega), hq]; omega
  have h1 := push_raw (c := c) (c' := c'') (by omega : n ≤ 100000) h.lim (by unfold Lim; omega) (h.r1.below hb) hr
  rw [e1, e2, e3] at h1
  refine h1.mono ?_
  rintro e w' ⟨A1, c1, A2, c2, rfl, h2, h3, h4, h5⟩
  have e4 : (qs ++ [v]).length = n + 1 := by simp [hq]
  rw [e4] at h2 ⊢
  exact ⟨A1, c1, A2, c2, rfl, h2, h5⟩
theorem one_pop {w wr w1 : World} {A : Option Addr} {n c : Nat} {qs : List (List Nat)} {v : List Nat} (h : One w wr A n c qs) (hb : Below wr.heap.size wr w1) (hv : qs[0]? = some v) :
    Calls Try.prog 9 #[.slice A n c] w1 fun e w' => ∃ A1 c1 A2 c2, e = .returned (.tuple #[.slice A1 (n - 1) c1, .agg #[.int .i64 0, .slice A2 v.length c2, .int .i64 0]]) ∧ OwnQ w1 w' A1 (n - 1) c1 qs.tail ∧ OwnB w1 w' A2 v.length c2 v ∧ Below w1.heap.size w1 w' := by
  have h12 := h.few
  have hq := h.r1.length
  have h0 : qs.length ≠ 0 := by intro h0; rw [List.eq_nil_of_length_eq_zero h0] at hv; simp at hv
  have e2 : popE qs = 0 := by unfold popE; rw [if_neg h0]
  have e3 : popV qs = v := by unfold popV; rw [List.head?_eq_getElem?, hv]; rfl
  have h1 := pop_raw (by omega : n ≤ 100000) h.le h.lim (h.r1.below hb)
  rw [e2, e3] at h1
  refine h1.mono ?_
  rintro e w' ⟨A1, c1, A2, c2, rfl, h2, h3, h4, h5⟩
  have e4 : qs.tail.length = n - 1 := by simp [hq]
  rw [e4] at h2 ⊢
  exact ⟨A1, c1, A2, c2, rfl, h2, h3, h4⟩
/-- what a pop answered: rows and a value whose bytes may be turned -/
structure Tail (wc wr : World) (A : Option Addr) (n c : Nat) (vs : List Value) (A' : Option Addr) (m c' b : Nat) : Prop where
  soft : Soft wr wc.heap.size vs
  row : wr.ownsRow wc.heap.size 24 1 (.slice A n c) n vs
  val : 0 < m → ∃ g, A' = some ⟨g, 0, none⟩ ∧ Bytes8 wr wc.heap.size g m
  res : Blk wr b 26 #[.int .i64 0, .slice A' m c', .int .i64 0]
  bel : Below wc.heap.size wc wr
  lim : ∀ (A : Option Addr) (m c : Nat), Value.slice A m c ∈ vs → m ≤ 1099511627776
theorem owns_lim {W w : World} {vs : List Value} {qs : List (List Nat)} (h : Owns W w vs qs) (hL : LimL qs) : ∀ (A : Option Addr) (m c : Nat), Value.slice A m c ∈ vs → m ≤ 1099511627776 := by
  intro A m c hm
  obtain ⟨i, hi, e⟩ := List.getElem_of_mem hm
  have hi2 : i < qs.length := by rw [← h.len]; exact hi
  obtain ⟨A', c', e2, _⟩ := h.cell i qs[i] (List.getElem?_eq_getElem hi2)
  rw [List.getElem?_eq_getElem hi, e] at e2
  injection e2 with e2
  injection e2 with _ e2
  have := hL qs[i] (List.getElem_mem _)
  unfold Lim at this
  omega
theorem Tail.set_ {wc wr : World} {A A' : Option Addr} {n c m c' b g mm i : Nat} {vs : List Value} {x : Int} (h : Tail wc wr A n c vs A' m c' b) (hb : Bytes8 wr wc.heap.size g mm) (h0 : 0 ≤ x) (h1 : x < 256) : Tail wc (wr.setCell ⟨g, i, none⟩ (.int .u8 x)) A n c vs A' m c' b :=
  ⟨h.soft.set_ h0 h1, own_set_b h.row hb (by decide), fun hm => by obtain ⟨g', e, hg⟩ := h.val hm; exact ⟨g', e, hg.set_ h0 h1⟩, h.res.set_other (fun e => hb.apart h.res (by decide) e.symm), h.bel.setCell hb.1 _, h.lim⟩
set_option maxHeartbeats 4000000 in
set_option maxRecDepth 100000 in
theorem fifoOwn_walk (a0 : Option Addr) (len0 cap0 : Nat) (z0 : List (List Nat)) (w : World) (w0 : IsRowQ w a0 len0 cap0 z0) :
    Calls Try.prog 4 #[.slice a0 len0 cap0] w fun e w' => e = .returned (.bool true) ∧ Below w.heap.size w w' := by
  obtain ⟨hr1, hle1, hcap1, hby⟩ := w0
  have hn1 : len0 ≤ 9223372036854775807 := Nat.le_trans hle1 hcap1
  have HR := Lib.hid hr1
  have HBY := Lib.hid hby
  clear hcap1 hr1 hby
  go_enter Try.func4, Try.ntmps4
  go_upto_block 0 with fail
  go_cut [3, 4, 5, 6, 7, 8] from 17 to 83 (fun s3 s4 s5 s6 s7 s8 wx => ∃ (A : Option Addr) (n c : Nat) (qs : List (List Nat)), s3 = .slice A n c ∧ Hid (One w wx A n c qs))
  case first =>
    go_wp2_with fail
    go_loopw [3, 4] (fun s3 s4 wr => ∃ (i n c : Nat) (A : Option Addr) (qs : List (List Nat)), i ≤ len0 ∧ s4 = .int .i64 (i : Int) ∧ s3 = .slice A n c ∧ n ≤ 8 ∧ Hid (One w wr A n c qs)) (fun _ s4 _ => len0 - (intOf s4).toNat)
    case atStart => exact ⟨0, 0, 0, none, [], Nat.zero_le _, rfl, rfl, by omega, Lib.hid ⟨RdQ.nil _ _ _, Nat.le_refl _, by omega, (fun l h => by cases h), (fun l h => by cases h), Below.refl _ _⟩⟩
    case round =>
      obtain ⟨i, n, c, A, qs, hi, rfl, rfl, h8, HO⟩ := hrel
      by_cases hlt : i < len0 ∧ n < 8
      · obtain ⟨hlt, hn8⟩ := hlt
        have hk1 : (i : Int) < (len0 : Int) := by omega
        have hk2 : (n : Int) < 8 := by omega
        have HB := Lib.hid HO.out.bel
        obtain ⟨b, o, l, A5, c5, rfl, hl, hcell, hrd⟩ := ((HR.out.below HB.out).fit).at hlt
        have HRD := Lib.hid hrd
        have HLL := Lib.hid hl
        clear hrd hl
        by_cases h16 : 16 < l.length
        · go_wp2
          go_roundw
          case rel => exact ⟨i + 1, n, c, A, qs, by omega, by go_num, rfl, h8, HO⟩
          case measure => simp [intOf]; omega
        · have HBL := Lib.hid (HBY.out l (List.mem_of_getElem? HLL.out))
          have hblt := World.block_lt_of_cell? _ _ hcell
          have HCW : Hid (∀ wx, Below wr.heap.size wr wx → wx.cell? ⟨b, o + i, none⟩ = some (.slice A5 l.length c5)) := Lib.hid (fun wx hb => (hb.cell (p := ⟨b, o + i, none⟩) hblt).trans hcell)
          have hcell0 := HCW.out (wr.alloc (.cells #[] 5)) ((Below.refl _ _).alloc (Nat.le_refl _) _)
          go_wp2_with (first
            | (at_builtin
               refine wpList_append_bytes (W := wr) byteT (.tmp 34) (.tmp 38) rfl (by rfl) rfl (own_empty (Below.refl _ _) 5) rfl (HRD.out.alloc (Nat.le_refl _) _) (by omega) ((Below.refl _ _).alloc (Nat.le_refl _) _) ?_
               intro A1 c1 w1 hown1 hr1 hB1
               simp only [Nat.zero_add, List.nil_append] at hown1 hr1)
            | fail)
          refine (one_push HO.out hB1 (by omega) hr1 hn8).mono ?_
          rintro e w2 ⟨A2, c2, A3, c3, rfl, hq, hb2⟩
          have b3 : Below w2.heap.size w2 (w2.alloc (.cells #[.int .i64 0, .slice A3 0 c3, .int .i64 ((n : Int) + 1)] 26)) := (Below.refl _ _).alloc (Nat.le_refl _) _
          have HK0 := Lib.hid (Blk.new w2 26 #[.int .i64 0, .slice A3 0 c3, .int .i64 ((n : Int) + 1)])
          have HG : Hid (∀ g, A1 = some ⟨g, 0, none⟩ → 0 < l.length → g < w1.heap.size) := Lib.hid (fun g e h => by obtain ⟨g', e', _, hg⟩ := own_addr hown1 h; rw [e'] at e; injection e with e; injection e with e; omega)
          have HO1 := Lib.hid (own_below (own_below hown1 hb2) b3)
          have HQ1 := Lib.hid (hq.below b3)
          have HB3 := Lib.hid ((hB1.trans (hb2.mono hB1.size)).trans (b3.mono (by have := hB1.size; have := hb2.size; omega)))
          have hs12 : Hid (w1.heap.size ≤ w2.heap.size) := Lib.hid hb2.size
          have hs01 : Hid (wr.heap.size ≤ w1.heap.size) := Lib.hid hB1.size
          clear hq hb2 hown1 hr1 hB1 b3
          go_wp2_with fail
          go_loopw [48] (fun s48 wx => ∃ (k : Nat) (xs : List Nat), k ≤ l.length ∧ s48 = .int .i64 (k : Int) ∧ Hid (OwnB wr wx A1 l.length c1 xs) ∧ Hid (OwnQ w1 wx A2 (n + 1) c2 (qs ++ [l])) ∧ Hid (Blk wx w2.heap.size 26 #[.int .i64 0, .slice A3 0 c3, .int .i64 ((n : Int) + 1)]) ∧ Hid (Below wr.heap.size wr wx)) (fun s48 _ => l.length - (intOf s48).toNat)
          case atStart => exact ⟨0, _, Nat.zero_le _, rfl, HO1, HQ1, HK0, HB3⟩
          case round =>
            clear HO1 HQ1 HK0 HB3
            rename World => wx
            obtain ⟨k, xs, hk, rfl, HO1, HQ1, HK0, HB3⟩ := hrel
            by_cases hlt : k < l.length
            · obtain ⟨g, rfl, hg1, hg2⟩ := own_addr HO1.out (by omega)
              have hgl := HG.out g rfl (by omega)
              have hc := own_byte HO1.out hlt
              have hu : IntKind.u8.wrap (((xs.getD k 0 : Nat) : Int) + 1) = (((xs.getD k 0 + 1) % 256 : Nat) : Int) := by rw [IntKind.wrap_u8']; omega
              obtain ⟨cur, hbk⟩ : ∃ cur, Blk wx g 5 cur := by
                rcases own_blk HO1.out with ⟨h1, _⟩ | ⟨g', cur, h1, _, h2⟩
                · cases h1
                · injection h1 with h1; injection h1 with h1; subst h1; exact ⟨cur, h2⟩
              have hf := hbk.frozen k
              have Ho := Lib.hid (own_set HO1.out k ((xs.getD k 0 + 1) % 256))
              have HK := Lib.hid (HK0.out.set_other (i := k) (u := .int .u8 (((xs.getD k 0 + 1) % 256 : Nat) : Int)) (fun e => HK0.out.apart hbk (by decide) e))
              have Hb := Lib.hid (HB3.out.setCell (p := ⟨g, k, none⟩) hg1 (.int .u8 (((xs.getD k 0 + 1) % 256 : Nat) : Int)))
              have HQ := Lib.hid (HQ1.out.set_lt hgl k (.int .u8 (((xs.getD k 0 + 1) % 256 : Nat) : Int)))
              clear HO1 HQ1 HK0 HB3 hbk hg2 hg1 hgl
              go_wp2_with fail
              go_roundw
              case rel =>
                have e : (((xs[k]?.getD 0 : Nat) : Int) + 1) % 256 = (((xs.getD k 0 + 1) % 256 : Nat) : Int) := by rw [List.getD_eq_getElem?_getD]; omega
                rw [e]
                exact ⟨k + 1, _, by omega, by go_num, Ho, HQ, HK, Hb⟩
              case measure => simp only [intOf]; omega
            · obtain rfl : k = l.length := by omega
              have HCX := HCW.out wx HB3.out
              have hk2 := hlt
              clear hlt hk
              obtain ⟨b', o', l', A6, c6, e6, hl6, hcell6, hrd6⟩ := (HQ1.out.rd).at (k := n) (by omega)
              have hq := HO.out.r1.length
              have e7 : l' = l := by rw [List.getElem?_append_right (by omega), hq] at hl6; simpa using hl6.symm
              subst e6 e7
              have hs1 := fun q => str_of (c := c6) (hrd6.drewN q)
              have hs2 := fun q => str_of (c := c5) (((HRD.out.below HB3.out).fit).drewN q)
              have hs3 : ((strB l').toList == (strB l').toList) = true := by simp
              have hs4 : (strB l' == strB l') = true := strB_self _
              have hs5 : (strB l' != strB l') = false := by rw [bne, hs4]; rfl
              have hwr : IntKind.i64.wrap ((n : Int) + 1) = (n : Int) + 1 := IntWalk.i64_in _ (by omega)
              obtain ⟨x0, x1, x2, _, _, _⟩ := three HK0.out
              clear hl6 hrd6 hq HO1 HK0 HRD
              go_upto_region 13 with fail
              go_quiet (fail)
              go_wp2
              go_roundw
              case rel =>
                have bq : ∀ u : World, ∀ B, Below B u (u.drew) := fun u B => ⟨rfl, rfl, rfl, Nat.le_refl _, fun _ _ => rfl⟩
                exact ⟨i + 1, n + 1, c2, some ⟨b', o', none⟩, qs ++ [l'], by omega, by go_num, rfl, by omega, Lib.hid ⟨HQ1.out.rd.below' ⟨rfl, rfl, rfl, Nat.le_refl _, fun _ _ => rfl⟩, HQ1.out.cap, by omega, fun x hx => (by
                    rcases List.mem_append.1 hx with h1 | h1
                    · exact HO.out.lim x h1
                    · simp at h1; subst h1; unfold Lim; omega), fun x hx => (by
                    rcases List.mem_append.1 hx with h1 | h1
                    · exact HO.out.byt x h1
                    · simp at h1; subst h1; exact HBL.out), (HB.out.trans (HB3.out.mono HB.out.size)).trans ⟨rfl, rfl, rfl, Nat.le_refl _, fun _ _ => rfl⟩⟩⟩
              case measure => simp [intOf]; omega
      · by_cases hi1 : i < len0
        · have hn8 : n = 8 := by omega
          subst hn8
          have hk1 : (i : Int) < (len0 : Int) := by omega
          clear hlt hi
          go_wp2_with fail
          go_meet
          exact ⟨_, _, _, _, rfl, HO⟩
        · have hk1 : ¬ (i : Int) < (len0 : Int) := by omega
          clear hlt hi
          go_wp2_with fail
          go_meet
          exact ⟨_, _, _, _, rfl, HO⟩
  case rest =>
    obtain ⟨A, n, c, qs, rfl, HO⟩ := hcut
    rename World => wc
    have HBw := Lib.hid HO.out.bel
    have h8 := HO.out.few
    by_cases h0 : n = 0
    · subst h0
      go_wp2_with (go_at_call 10; refine (fifoAwake _).mono ?_; rintro e w1 ⟨rfl, hb⟩)
      go_ret
      exact ⟨rfl, HBw.out.trans (hb.mono HBw.out.size)⟩
    · have hne : ((n : Int) == 0) = false := by rw [beq_eq_false_iff_ne]; omega
      have hpos : 0 < (n : Int) := by omega
      have hn0 : 0 < n := by omega
      obtain ⟨b, o, l, A5, c5, rfl, hl, hcell, hrd⟩ := HO.out.r1.at hn0
      rw [Nat.add_zero] at hcell
      have hs1 := str_of (c := c5) hrd
      have hblt := World.block_lt_of_cell? _ _ hcell
      have HRD := Lib.hid hrd
      have HLL := Lib.hid hl
      have HLI : Hid (l.length ≤ 1099511627776) := Lib.hid (by have := HO.out.lim l (List.mem_of_getElem? hl); unfold Lim at this; omega)
      have HCW : Hid (∀ wx, Below wc.heap.size wc wx → wx.cell? ⟨b, o, none⟩ = some (.slice A5 l.length c5)) := Lib.hid (fun wx hb => (hb.cell (p := ⟨b, o, none⟩) hblt).trans hcell)
      clear hrd hl h0
      go_wp2_with fail
      refine (one_pop HO.out (Below.refl _ _) HLL.out).mono ?_
      rintro e w1 ⟨A1, c1, A2, c2, rfl, ⟨vs, hrow, hown⟩, hval, hb1⟩
      have b2 : Below w1.heap.size w1 (w1.alloc (.cells #[.int .i64 0, .slice A2 l.length c2, .int .i64 0] 26)) := (Below.refl _ _).alloc (Nat.le_refl _) _
      have hbl : ∀ x ∈ l, x < 256 := HO.out.byt l (List.mem_of_getElem? HLL.out)
      have HT : Hid (Tail wc (w1.alloc (.cells #[.int .i64 0, .slice A2 l.length c2, .int .i64 0] 26)) A1 (n - 1) c1 vs A2 l.length c2 w1.heap.size) := Lib.hid
        ⟨(hown.soft (fun x hx => HO.out.byt x (List.mem_of_mem_tail hx))).below b2, ownsRow_below hrow b2, fun hm => (by obtain ⟨g, e, h⟩ := soft_own hval hbl hm; exact ⟨g, e, h.below b2⟩), Blk.new _ _ _, hb1.trans (b2.mono hb1.size), owns_lim hown (fun x hx => HO.out.lim x (List.mem_of_mem_tail hx))⟩
      clear hrow hown hval hb1 b2 hbl hs1 hcell
      obtain ⟨x0, x1, x2, _, _, _⟩ := three HT.out.res
      go_wp2_with fail
      clear x0 x1 x2
      go_loopw [100] (fun s100 wr => ∃ k : Nat, k ≤ l.length ∧ s100 = .int .i64 (k : Int) ∧ Hid (Tail wc wr A1 (n - 1) c1 vs A2 l.length c2 w1.heap.size)) (fun s100 _ => l.length - (intOf s100).toNat)
      case atStart => exact ⟨0, Nat.zero_le _, rfl, HT⟩
      case round =>
        clear HT
        obtain ⟨k, hk, rfl, HT⟩ := hrel
        by_cases hlt : k < l.length
        · obtain ⟨g, rfl, hg⟩ := HT.out.val (by omega)
          obtain ⟨hg1, hf, x, hx0, hx1, hc⟩ := hg.at hlt
          have hu := up8 x hx0 hx1
          have hwk : IntKind.i64.wrap ((k : Int) + 1) = (k : Int) + 1 := IntWalk.i64_in _ (by have := HLI.out; omega)
          obtain ⟨x0, x1, x2, _, _, _⟩ := three HT.out.res
          have HS := Lib.hid (HT.out.set_ (i := k) hg (show 0 ≤ (x + 1) % 256 by omega) (by omega))
          clear HT hg hg1
          go_wp2_with fail
          go_roundw
          case rel => exact ⟨k + 1, by omega, by go_num, HS⟩
          case measure => simp only [intOf]; omega
        · obtain rfl : k = l.length := by omega
          clear hlt hk
          rename World => wy
          go_wp2_with fail
          go_loopw [113] (fun s113 wr => ∃ k : Nat, k ≤ n - 1 ∧ s113 = .int .i64 (k : Int) ∧ Hid (Tail wc wr A1 (n - 1) c1 vs A2 l.length c2 w1.heap.size)) (fun s113 _ => (n - 1) - (intOf s113).toNat)
          case atStart => exact ⟨0, Nat.zero_le _, rfl, HT⟩
          case round =>
            clear HT
            obtain ⟨k, hk, rfl, HT⟩ := hrel
            by_cases hlt : k < n - 1
            · obtain ⟨gr, rfl, hgr1, hgr2⟩ := own_addr HT.out.row (by omega)
              obtain ⟨v, hv⟩ : ∃ v, vs[k]? = some v := ⟨_, List.getElem?_eq_getElem (by have := HT.out.row.1; omega)⟩
              obtain ⟨A9, m9, c9, rfl, _⟩ := HT.out.soft v (List.mem_of_getElem? hv)
              have HM9 := Lib.hid (HT.out.lim _ _ _ (List.mem_of_getElem? hv))
              have HV := Lib.hid hv
              have hck := (HT.out.row.cellAt k (by have := HT.out.row.1; omega)).trans hv
              have hkn : (k : Int) < ((n - 1 : Nat) : Int) := by omega
              clear hv hgr1 hgr2
              go_wp2_with fail
              clear hck
              go_loopw [121] (fun s121 wr => ∃ j : Nat, j ≤ m9 ∧ s121 = .int .i64 (j : Int) ∧ Hid (Tail wc wr (some ⟨gr, 0, none⟩) (n - 1) c1 vs A2 l.length c2 w1.heap.size)) (fun s121 _ => m9 - (intOf s121).toNat)
              case atStart => exact ⟨0, Nat.zero_le _, rfl, HT⟩
              case round =>
                clear HT
                obtain ⟨j, hj, rfl, HT⟩ := hrel
                have hck := (HT.out.row.cellAt k (by have := HT.out.row.1; omega)).trans HV.out
                by_cases hjt : j < m9
                · obtain ⟨_, _, _, e9, hm⟩ := HT.out.soft _ (List.mem_of_getElem? HV.out)
                  injection e9 with e1 e2 e3
                  subst e1 e2 e3
                  obtain ⟨g, rfl, hg⟩ := hm (by omega)
                  obtain ⟨hg1, hf, x, hx0, hx1, hc⟩ := hg.at hjt
                  have hu := up8 x hx0 hx1
                  have hwk : IntKind.i64.wrap ((j : Int) + 1) = (j : Int) + 1 := IntWalk.i64_in _ (by have := HM9.out; omega)
                  have HS := Lib.hid (HT.out.set_ (i := j) hg (show 0 ≤ (x + 1) % 256 by omega) (by omega))
                  clear HT hg hg1
                  go_wp2_with fail
                  go_roundw
                  case rel => exact ⟨j + 1, by omega, by go_num, HS⟩
                  case measure => simp only [intOf]; omega
                · obtain rfl : j = m9 := by omega
                  clear hjt hj
                  go_wp2_with fail
                  go_roundw
                  case rel => exact ⟨k + 1, by omega, by go_num, HT⟩
                  case measure => simp only [intOf]; omega
            · obtain rfl : k = n - 1 := by omega
              clear hlt hk
              rename World => wz
              have HBz := Lib.hid HT.out.bel
              clear HT
              go_wp2_with fail
              refine (one_pop HO.out HBz.out HLL.out).mono ?_
              rintro e w8 ⟨A7, c7, A8, c8, rfl, hq8, hv8, hb8⟩
              have b9 : Below w8.heap.size w8 (w8.alloc (.cells #[.int .i64 0, .slice A8 l.length c8, .int .i64 0] 26)) := (Below.refl _ _).alloc (Nat.le_refl _) _
              have HB9 := Lib.hid ((HBz.out.trans (hb8.mono HBz.out.size)).trans (b9.mono (Nat.le_trans HBz.out.size hb8.size)))
              have hc9 := HCW.out _ HB9.out
              have hs1 := str_of (c := c5) (HRD.out.below HB9.out)
              have hs2 := str_of (c := c8) ((Rd.own_ hv8).below b9)
              obtain ⟨x0, x1, x2, _, _, _⟩ := three (Blk.new w8 26 #[.int .i64 0, .slice A8 l.length c8, .int .i64 0])
              have hs3 : (strB l == strB l) = true := strB_self _
              have hs4 : ((strB l).toList == (strB l).toList) = true := by simp
              have hsub : (n : Int) - 1 = ((n - 1 : Nat) : Int) := by omega
              have hwr : IntKind.i64.wrap ((n - 1 : Nat) : Int) = ((n - 1 : Nat) : Int) := IntWalk.i64_in _ (by omega)
              clear hq8 hv8 hb8 b9
              go_wp2_with (go_at_call 10; refine (fifoAwake _).mono ?_; rintro e w9 ⟨rfl, hb⟩)
              go_ret
              have h1 := HBw.out.trans (HB9.out.mono HBw.out.size)
              exact ⟨rfl, h1.trans (hb.mono h1.size)⟩
end Go.Proofs.Ytogohlljkpchmaa
