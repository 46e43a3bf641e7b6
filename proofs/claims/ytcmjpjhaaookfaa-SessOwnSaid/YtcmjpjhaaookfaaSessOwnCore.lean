/- SessOwn: the walk, over any contracts of the code's. -/
import Derived.Test.YtcmjpjhaaookfaaSessPlaysCore
import Derived.Test.YtcmjpjhaaookfaaSetKit
namespace Go.Proofs.Ytcmjpjhaaookfaa
open Go.RowKit
set_option linter.unusedVariables false
/-- a table's numbers, where they stand -/
def RowS (wx : World) (B : Nat) (A : Option Addr) (ls : List Ls) : Prop := ∀ k l, ls[k]? = some l → ∃ b, A = some ⟨b, 0, none⟩ ∧ b < B ∧
  wx.cell? ⟨b, k * 5, none⟩ = some (.int .i64 l.s) ∧ wx.cell? ⟨b, k * 5 + 1, none⟩ = some (.int .i64 l.q) ∧ wx.cell? ⟨b, k * 5 + 4, none⟩ = some (.int .i64 l.n)
theorem RowS.below {w w' : World} {B : Nat} {A : Option Addr} {ls : List Ls} (h : RowS w B A ls) (hb : Below B w w') : RowS w' B A ls := fun k l hl => by
  obtain ⟨b, e, hlt, h1, h2, h3⟩ := h k l hl
  exact ⟨b, e, hlt, (hb.cell (p := ⟨b, k * 5, none⟩) hlt).trans h1, (hb.cell (p := ⟨b, k * 5 + 1, none⟩) hlt).trans h2, (hb.cell (p := ⟨b, k * 5 + 4, none⟩) hlt).trans h3⟩
theorem RowS.of {w : World} {base n c : Nat} {A : Option Addr} {vs : List Value} {ls : List Ls} {R : Option Addr → Nat → List Nat → Prop} (h : w.ownsRow base 57 5 (.slice A n c) n vs) (hc : CellsL R vs ls) : RowS w w.heap.size A ls := fun k l hl => by
  have hlen : vs.length = n * 5 := h.1
  have hk : k < ls.length := (List.getElem?_eq_some_iff.1 hl).1
  have hln := hc.len
  obtain ⟨g, rfl, _, hg⟩ := own_addrS h (by omega)
  obtain ⟨A2, c2, e, _⟩ := hc.cell k l hl
  exact ⟨g, rfl, hg, (h.cellAt (k * 5) (by omega)).trans (e 0 _ rfl), (h.cellAt (k * 5 + 1) (by omega)).trans (e 1 _ rfl), (h.cellAt (k * 5 + 4) (by omega)).trans (e 4 _ rfl)⟩
theorem RowS.lt {w : World} {B B' : Nat} {A : Option Addr} {ls : List Ls} (h : RowS w B A ls) (hB : ∀ b, A = some ⟨b, 0, none⟩ → b < B') : RowS w B' A ls := fun k l hl => by
  obtain ⟨b, e, _, r⟩ := h k l hl
  exact ⟨b, e, hB b e, r⟩
theorem OwnL.set_lt {W w : World} {A : Option Addr} {n c g : Nat} {ls : List Ls} (h : OwnL W w A n c ls) (hg : g < W.heap.size) (i : Nat) (u : Value) : OwnL W (w.setCell ⟨g, i, none⟩ u) A n c ls := by
  obtain ⟨vs, h1, h2⟩ := h
  exact ⟨vs, own_set_lt h1 hg i u, h2.imp fun _ _ _ h => own_set_lt h hg i u⟩
theorem put_mem {ls : List Ls} {l : Ls} : Tb.put ls l ≠ [] := by unfold Tb.put; simp
theorem look99 {ls : List Ls} {S : Int} (hS : 1 ≤ S ∧ S ≤ 8) : Tb.look (Tb.put ls ⟨S, 99, 0, [120], 0⟩) S 99 = ⟨0, [120], 0, 1⟩ := by
  unfold Tb.look
  rw [if_pos ⟨by omega, by omega, by omega, by omega⟩]
  have := Tb.here_put (ls := ls) (l := ⟨S, 99, 0, [120], 0⟩)
  rw [this]
  rfl
/-- what the last loops keep: u's row, the answer's variable and byte, all that stood ahead of v -/
structure St2 (w5 w8 wx : World) (g : Nat) (A9 : Option Addr) (n9 c9 : Nat) (A10 : Option Addr) (c10 x : Nat) : Prop where
  row : ∃ vs, wx.ownsRow w8.heap.size 57 5 (.slice A9 n9 c9) n9 vs
  var : Blk wx g 34 #[.int .i64 0, .slice A10 1 c10, .int .i64 0]
  byte : wx.ownsRow w8.heap.size 5 1 (.slice A10 1 c10) 1 (bv [x])
  bel : Below w5.heap.size w5 wx
  lt : w5.heap.size < w8.heap.size
theorem St2.store {w5 w8 wx : World} {g n9 c9 c10 x j : Nat} {A9 A10 : Option Addr} (h : St2 w5 w8 wx g A9 n9 c9 A10 c10 x) (hj : j < n9) (h0 : 0 < n9) :
    ∃ g9, A9 = some ⟨g9, 0, none⟩ ∧ w8.heap.size ≤ g9 ∧ (∃ u, wx.cell? ⟨g9, j * 5 + 1, none⟩ = some u) ∧ wx.frozen? ⟨g9, j * 5 + 1, none⟩ = false ∧
      St2 w5 w8 (wx.setCell ⟨g9, j * 5 + 1, none⟩ (.int .i64 777)) g A9 n9 c9 A10 c10 x := by
  obtain ⟨vs, hr⟩ := h.row
  have hlen : vs.length = n9 * 5 := hr.1
  obtain ⟨g9, rfl, hg1, hg2⟩ := own_addrS hr h0
  obtain ⟨cur, hbk⟩ : ∃ cur, Blk wx g9 57 cur := by
    rcases own_blk hr with ⟨q1, _⟩ | ⟨g', cur, q1, _, q2⟩
    · cases q1
    · injection q1 with q1; injection q1 with q1; subst q1; exact ⟨cur, q2⟩
  have hlt := h.lt
  refine ⟨g9, rfl, hg1, ⟨vs[j * 5 + 1]'(by omega), by rw [hr.cellAt (j * 5 + 1) (by omega)]; exact List.getElem?_eq_getElem _⟩, own_frozenS hr _, ⟨_, (hr.stored (j * 5 + 1) (.int .i64 777)).1⟩, h.var.set_other (h.var.apart hbk (by decide)), own_set_t h.byte hbk (by decide), h.bel.setCell (p := ⟨g9, j * 5 + 1, none⟩) (by show w5.heap.size ≤ g9; omega) _, h.lt⟩
theorem St2.turn {w5 w8 wx : World} {g n9 c9 c10 x : Nat} {A9 A10 : Option Addr} (h : St2 w5 w8 wx g A9 n9 c9 A10 c10 x) (y : Nat) :
    ∃ g10, A10 = some ⟨g10, 0, none⟩ ∧ wx.cell? ⟨g10, 0, none⟩ = some (.int .u8 (x : Int)) ∧ wx.frozen? ⟨g10, 0, none⟩ = false ∧ St2 w5 w8 (wx.setCell ⟨g10, 0, none⟩ (.int .u8 (y : Int))) g A9 n9 c9 A10 c10 y := by
  obtain ⟨vs, hr⟩ := h.row
  obtain ⟨g10, rfl, hg1, hg2⟩ := own_addrS h.byte (by omega)
  obtain ⟨cur, hbk⟩ : ∃ cur, Blk wx g10 5 cur := by
    rcases own_blk h.byte with ⟨q1, _⟩ | ⟨g', cur, q1, _, q2⟩
    · cases q1
    · injection q1 with q1; injection q1 with q1; subst q1; exact ⟨cur, q2⟩
  have hlt := h.lt
  exact ⟨g10, rfl, h.byte.cellAt 0 (by omega), own_frozenS h.byte _, ⟨_, own_set_t hr hbk (by decide)⟩, h.var.set_other (h.var.apart hbk (by decide)), (h.byte.stored 0 (.int .u8 (y : Int))).1, h.bel.setCell (p := ⟨g10, 0, none⟩) (by show w5.heap.size ≤ g10; omega) _, h.lt⟩
set_option maxHeartbeats 4000000 in
set_option maxRecDepth 100000 in
theorem sessOwn_core (hL : LookC9) (hP : PutC9) (hA : AwakeC9) (a0 : Option Addr) (len0 cap0 : Nat) (z0 : List Int) (a1 : Int) (w : World) (w0 : IsRow .i64 w a0 len0 cap0 z0) :
    Calls Try.prog 9 #[.slice a0 len0 cap0, .int .i64 a1] w fun e w' => e = .returned (.bool true) ∧ Below w.heap.size w w' := by
  obtain ⟨hz, hzl, hle0, hcap0⟩ := w0.ints
  obtain ⟨zs, hzs⟩ : ∃ zs, zs = z0.take len0 := ⟨_, rfl⟩
  rw [← hzs] at hz hzl
  have HZ := Lib.hid hz
  have HZL := Lib.hid hzl
  clear w0 hcap0 hzs hz hle0 hzl
  obtain ⟨f, hf, hf8⟩ : ∃ f : Nat, bits .and .i64 a1 7 = (f : Int) ∧ f < 8 := ⟨(a1 % 8).toNat, by rw [and_7]; omega, by omega⟩
  have hwf : IntKind.i64.wrap ((f : Int) + 1) = (f : Int) + 1 := IntWalk.i64_in _ (by omega)
  have hS : (1 : Int) ≤ (f : Int) + 1 ∧ (f : Int) + 1 ≤ 8 := by omega
  go_enter Try.func9, Try.ntmps9
  go_upto_block 0 with fail
  go_cut [5, 6] from 15 to 39 (fun s5 s6 wx => ∃ (n c1 : Nat) (A1 : Option Addr) (ls : List Ls), s5 = .slice A1 n c1 ∧ Hid (OwnL w wx A1 n c1 ls) ∧ Hid (Tb.Ok ls ∧ ls.length ≤ 8) ∧ Hid (Below w.heap.size w wx))
  case first =>
   go_wp2_with fail
   go_loopw [5, 6] (fun s5 s6 wr => ∃ (i n c1 : Nat) (A1 : Option Addr) (ls : List Ls), i ≤ 8 ∧ s6 = .int .i64 (i : Int) ∧ s5 = .slice A1 n c1 ∧ Hid (OwnL w wr A1 n c1 ls) ∧ Hid (Tb.Ok ls ∧ ls.length ≤ i) ∧ Hid (Below w.heap.size w wr)) (fun _ s6 _ => 8 - (intOf s6).toNat)
   case atStart => exact ⟨0, 0, 0, none, [], by omega, rfl, rfl, Lib.hid (OwnL.nil w w), Lib.hid ⟨Tb.Ok.nil, by simp⟩, Lib.hid (Below.refl _ _)⟩
   case round =>
     obtain ⟨i, n, c1, A1, ls, hi, rfl, rfl, HO, HK, HB⟩ := hrel
     by_cases h1 : (i : Int) < (len0 : Int) ∧ (i : Int) < 8
     · obtain ⟨h1, h3⟩ := h1
       obtain ⟨p, hp⟩ : ∃ p, zs[i]? = some p := ⟨_, List.getElem?_eq_getElem (by have := HZL.out; omega)⟩
       obtain ⟨b0, o0, rfl, _⟩ := (HZ.out.below HB.out).int_at (k := i) (by omega)
       have y0 := (HZ.out.below HB.out).int_cell (k := i) (by omega) hp
       obtain ⟨d, hd, hd8⟩ : ∃ d : Nat, bits .and .i64 p 7 = (d : Int) ∧ d < 8 := ⟨(p % 8).toNat, by rw [and_7]; omega, by omega⟩
       have hw1 : IntKind.i64.wrap ((d : Int) + 1) = (d : Int) + 1 := IntWalk.i64_in _ (by omega)
       have hw6 : IntKind.i64.wrap ((i : Int) + 1) = (i : Int) + 1 := IntWalk.i64_in _ (by omega)
       have hcv : IntKind.u8.wrap (i : Int) = (i : Int) := by unfold IntKind.wrap; simp [IntKind.signed, IntKind.bits]; omega
       have hi0 : (0 : Int) ≤ (i : Int) := by omega
       clear hp
       go_wp2_with fail
       have hb' : Below wr.heap.size wr (wr.alloc (.cells #[.int .u8 (i : Int)] 5)) := (Below.refl _ _).alloc (Nat.le_refl _) _
       refine (hP.is (W := w) (ls' := Tb.put ls ⟨(d : Int) + 1, (i : Int) + 1, 0, [i], (i : Int)⟩) ((d : Int) + 1) ((i : Int) + 1) 0 [i] (i : Int) rfl (m := 1) rfl HK.out.1 ⟨by omega, by omega, by omega, by omega⟩ (by omega) (by intro x hx; simp at hx; omega) HO.out.cap (HO.out.below hb').rd (rdOne wr i 5 rfl) (HB.out.trans (hb'.mono HB.out.size))).mono ?_
       rintro e w1 ⟨A2, c2, rfl, ho, hB, hb⟩
       obtain ⟨n2, hn2⟩ : ∃ k, k = (Tb.put ls ⟨(d : Int) + 1, (i : Int) + 1, 0, [i], (i : Int)⟩).length := ⟨_, rfl⟩
       rw [← hn2] at ho ⊢
       have HN := Lib.hid hn2
       clear hn2 y0
       go_wp2_with fail
       go_roundw
       case rel =>
         have h5 := HK.out
         have h6 := Tb.length_put_le (ls := ls) (l := ⟨(d : Int) + 1, (i : Int) + 1, 0, [i], (i : Int)⟩)
         exact ⟨i + 1, n2, c2, A2, _, by omega, by go_num, rfl, Lib.hid ho, Lib.hid ⟨Tb.Ok.put h5.1 (by omega) ⟨by show (1 : Int) ≤ (d : Int) + 1; omega, by show (1 : Int) ≤ (i : Int) + 1; omega, by show (d : Int) + 1 ≤ 1073741824; omega, by show (i : Int) + 1 ≤ 1073741824; omega⟩ (by show 1 ≤ 16; omega) (by intro x hx; simp at hx; omega), by omega⟩, Lib.hid hB⟩
       case measure => simp only [intOf]; omega
     · by_cases h1' : (i : Int) < (len0 : Int)
       · have h3 : ¬ (i : Int) < 8 := fun h => h1 ⟨h1', h⟩
         clear h1
         go_wp2_with fail
         go_meet
         exact ⟨n, c1, A1, ls, rfl, HO, Lib.hid ⟨HK.out.1, by have := HK.out.2; omega⟩, HB⟩
       · clear h1
         go_wp2_with fail
         go_meet
         exact ⟨n, c1, A1, ls, rfl, HO, Lib.hid ⟨HK.out.1, by have := HK.out.2; omega⟩, HB⟩
  case rest =>
    obtain ⟨n, c1, A1, ls, rfl, HO, HK, HB⟩ := hcut
    have hl := HO.out.length
    have hl8 := HK.out.2
    have bd : Below wc.heap.size wc (wc.alloc (.cells #[] 57)) := (Below.refl _ _).alloc (Nat.le_refl _) _
    obtain ⟨vs, hv1, hv2⟩ := HO.out
    have HV1 := Lib.hid hv1
    have HV2 := Lib.hid hv2
    clear hv1 hv2
    go_upto_region 7 with (first
      | (at_builtin
         refine wpList_append_S (W := wc) cellL (.tmp 40) (.tmp 41) rfl (by rfl) rfl (ownL_at (Below.refl _ _) _ rfl) rfl ((Rd.ownS HV1.out (by omega)).below bd) HV2.out.one (by omega) (by omega) bd ?_
         intro A5 c5 w5 hown5 hB5 hg5
         simp only [Nat.zero_add, List.nil_append] at hown5)
      | fail)
    have hS1 : RowS w5 w5.heap.size A1 ls := RowS.of (ownsRow_below HV1.out hB5) HV2.out
    have hS2 : RowS w5 w5.heap.size A5 ls := RowS.of hown5 HV2.out
    have hk1 := const1 w5 #[.int .u8 120] 1 1
    have HS1 := Lib.hid hS1
    have HS2 := Lib.hid hS2
    have HBC := Lib.hid (HB.out.trans (hB5.mono HB.out.size))
    have HT := Lib.hid ((HO.out.below hB5))
    clear hS1 hS2 hB5 hg5 hown5 bd HO HV1 HV2 HB
    go_wp2_with fail
    clear hk1
    have hb8 : Below w5.heap.size w5 (w5.alloc (.cells #[.int .u8 120] 5 (1, 2))) := (Below.refl _ _).alloc (Nat.le_refl _) _
    have hsz : (w5.alloc (.cells #[.int .u8 120] 5 (1, 2))).heap.size = w5.heap.size + 1 := World.size_alloc _ _
    have hr8 : Rd (w5.alloc (.cells #[.int .u8 120] 5 (1, 2))) (w5.alloc (.cells #[.int .u8 120] 5 (1, 2))).heap.size (some ⟨w5.heap.size, 0, none⟩) 1 (bv [120]) := (Rd.made w5 #[.int .u8 120] 5 (1, 2) 1 rfl).fit
    have hh8 : (w5.alloc (.cells #[.int .u8 120] 5 (1, 2))).heap[w5.heap.size]? = some (.cells #[.int .u8 120] 5 (1, 2)) := heap_alloc_new w5 _
    generalize w5.alloc (.cells #[.int .u8 120] 5 (1, 2)) = w8 at hb8 hsz hr8 hh8 ⊢
    obtain ⟨ls9, hls9⟩ : ∃ ls9, Tb.put ls ⟨(f : Int) + 1, 99, 0, [120], 0⟩ = ls9 := ⟨_, rfl⟩
    have hlk : Tb.look ls9 ((f : Int) + 1) 99 = ⟨0, [120], 0, 1⟩ := by rw [← hls9]; exact look99 hS
    have hok9 : Tb.Ok ls9 := by rw [← hls9]; exact Tb.Ok.put HK.out.1 (by omega) ⟨by show (1 : Int) ≤ (f : Int) + 1; omega, by show (1 : Int) ≤ 99; omega, by show (f : Int) + 1 ≤ 1073741824; omega, by show (99 : Int) ≤ 1073741824; omega⟩ (by show 1 ≤ 16; omega) (by intro x hx; simp at hx; omega)
    refine (hP.is (W := w8) (ls' := ls9) ((f : Int) + 1) 99 0 [120] 0 rfl (m := 1) hls9 HK.out.1 ⟨by omega, by omega, by omega, by omega⟩ (by omega) (by intro x hx; simp at hx; omega) HT.out.cap (HT.out.below hb8).rd hr8 (Below.refl _ _)).mono ?_
    rintro e w9 ⟨A9, c9, rfl, ho9, hB9, _⟩
    have hh9 : w9.heap[w5.heap.size]? = some (.cells #[.int .u8 120] 5 (1, 2)) := (hB9.block _ (by omega)).trans hh8
    have hc9 : w9.cell? ⟨w5.heap.size, 0, none⟩ = some (.int .u8 120) := by simp [World.cell?, hh9]
    have hf9 : w9.frozen? ⟨w5.heap.size, 0, none⟩ = false := by simp [World.frozen?, hh9]
    have HU := Lib.hid (ho9.set_lt (by omega : w5.heap.size < w8.heap.size) 0 (.int .u8 121))
    have HBT := Lib.hid ((hb8.trans (hB9.mono (by omega))).setCell (p := ⟨w5.heap.size, 0, none⟩) (Nat.le_refl _) (.int .u8 121))
    have hs9 := hB9.size
    have HSZ : Hid (w5.heap.size < w8.heap.size ∧ w8.heap.size ≤ (w9.setCell ⟨w5.heap.size, 0, none⟩ (.int .u8 121)).heap.size) := Lib.hid ⟨by omega, by simpa [World.setCell] using hs9⟩
    obtain ⟨n9, hn9⟩ : ∃ k, k = ls9.length := ⟨_, rfl⟩
    have hn90 : 0 < n9 := by rw [hn9, ← hls9]; exact List.length_pos_iff.2 put_mem
    have hn9k : n9 ≤ 100000 := by rw [hn9]; have := hok9.len; omega
    rw [← hn9] at HU ⊢
    clear hn9 hls9 hh8 hh9 hr8 hb8 ho9 hB9 HT HK hs9 hsz
    go_upto_region 10 with fail
    generalize w9.setCell ⟨w5.heap.size, 0, none⟩ (.int .u8 121) = wa at HU HBT HSZ ⊢
    clear hc9 hf9
    go_wp2_with fail
    refine (hL.is (W := wa) ((f : Int) + 1) 99 hlk hok9 HU.out.cap HU.out.rd (Below.refl _ _)).mono ?_
    rintro e wb ⟨A10, c10, rfl, ho10, hB10, _⟩
    unfold resV
    simp only [List.length_cons, List.length_nil, Nat.zero_add] at ho10 ⊢
    have hbv : Below wb.heap.size wb (wb.alloc (.cells #[.int .i64 0, .slice A10 1 c10, .int .i64 0] 34)) := (Below.refl _ _).alloc (Nat.le_refl _) _
    have HST : Hid (St2 w5 w8 (wb.alloc (.cells #[.int .i64 0, .slice A10 1 c10, .int .i64 0] 34)) wb.heap.size A9 n9 c9 A10 c10 120) := Lib.hid ⟨by
        obtain ⟨vs9, h9, _⟩ := (HU.out.below hB10).below hbv
        exact ⟨vs9, h9⟩, Blk.new _ _ _, own_moreL HSZ.out.2 (own_below ho10 hbv), (HBT.out.trans (hB10.mono (by have := HSZ.out; omega))).alloc (by have := HSZ.out; have := hB10.size; omega) _, HSZ.out.1⟩
    clear ho10 hB10 hbv HU HBT hok9 hlk
    obtain ⟨x0, x1, x2, _, _, _⟩ := three HST.out.var
    go_wp2_with fail
    go_loopw [64] (fun s64 wx => ∃ j : Nat, j ≤ n9 ∧ s64 = .int .i64 (j : Int) ∧ Hid (St2 w5 w8 wx wb.heap.size A9 n9 c9 A10 c10 120)) (fun s64 _ => n9 - (intOf s64).toNat)
    case atStart => exact ⟨0, Nat.zero_le _, rfl, HST⟩
    case round =>
      clear x0 x1 x2 HST
      obtain ⟨j, hj, rfl, HST⟩ := hrel
      by_cases hlt : j < n9
      · have hji : (j : Int) < (n9 : Int) := by omega
        have hw1 : IntKind.i64.wrap ((j : Int) + 1) = (j : Int) + 1 := IntWalk.i64_in _ (by omega)
        have hj0 : (0 : Int) ≤ (j : Int) := by omega
        obtain ⟨g9, hg9, hwg, hcv, hfz, hst⟩ := HST.out.store hlt (by omega)
        subst hg9
        obtain ⟨u, hu⟩ := hcv
        go_wp2_with fail
        go_roundw
        case rel => exact ⟨j + 1, by omega, by go_num, Lib.hid hst⟩
        case measure => simp only [intOf]; omega
      · obtain rfl : j = n9 := by omega
        obtain ⟨x0, x1, x2, _, _, _⟩ := three HST.out.var
        clear hlt hj
        go_wp2_with fail
        go_loopw [75] (fun s75 wx => ∃ j2 : Nat, j2 ≤ 1 ∧ s75 = .int .i64 (j2 : Int) ∧ Hid (St2 w5 w8 wx wb.heap.size A9 j c9 A10 c10 (120 + j2))) (fun s75 _ => 1 - (intOf s75).toNat)
        case atStart => exact ⟨0, by omega, rfl, HST⟩
        case round =>
          clear x0 x1 x2 HST
          obtain ⟨j2, hj2, rfl, HST⟩ := hrel
          obtain ⟨x0, x1, x2, _, _, _⟩ := three HST.out.var
          cases j2 with
          | zero =>
            obtain ⟨g10, hg10, hcb, hfb, hst⟩ := HST.out.turn 121
            subst hg10
            go_wp2_with fail
            go_roundw
            case rel => exact ⟨1, by omega, by go_num, Lib.hid hst⟩
            case measure => simp only [intOf]; omega
          | succ j3 =>
            obtain rfl : j3 = 0 := by omega
            go_wp2_with fail
            rename World => wl
            have HST2 := HST
            have HX := Lib.hid (And.intro (HS1.out.below HST.out.bel) (HS2.out.below HST.out.bel))
            clear x0 x1 x2 HST HS1 HS2
            go_loopw [88] (fun s88 wx => ∃ j4 : Nat, j4 ≤ n ∧ s88 = .int .i64 (j4 : Int) ∧ ∃ m, wx = wl.drewN m) (fun s88 _ => n - (intOf s88).toNat)
            case atStart => exact ⟨0, Nat.zero_le _, rfl, 0, rfl⟩
            case round =>
              obtain ⟨j4, hj4, rfl, m, hm⟩ := hrel
              have HM := Lib.hid hm
              by_cases hlt4 : j4 < n
              · obtain ⟨l, hl4⟩ : ∃ l, ls[j4]? = some l := ⟨_, List.getElem?_eq_getElem (by omega)⟩
                obtain ⟨b, hb, _, q0, q1, q2⟩ := HX.out.1 j4 l hl4
                obtain ⟨b', hb', _, r0, r1, r2⟩ := HX.out.2 j4 l hl4
                subst hb hb'
                have y0 : wr.cell? ⟨b, j4 * 5, none⟩ = some (.int .i64 l.s) := by rw [hm]; exact q0
                have y1 : wr.cell? ⟨b, j4 * 5 + 1, none⟩ = some (.int .i64 l.q) := by rw [hm]; exact q1
                have y2 : wr.cell? ⟨b, j4 * 5 + 4, none⟩ = some (.int .i64 l.n) := by rw [hm]; exact q2
                have y3 : wr.cell? ⟨b', j4 * 5, none⟩ = some (.int .i64 l.s) := by rw [hm]; exact r0
                have y4 : wr.cell? ⟨b', j4 * 5 + 1, none⟩ = some (.int .i64 l.q) := by rw [hm]; exact r1
                have y5 : wr.cell? ⟨b', j4 * 5 + 4, none⟩ = some (.int .i64 l.n) := by rw [hm]; exact r2
                have hji : (j4 : Int) < (n : Int) := by omega
                have hj0 : (0 : Int) ≤ (j4 : Int) := by omega
                have hw1 : IntKind.i64.wrap ((j4 : Int) + 1) = (j4 : Int) + 1 := IntWalk.i64_in _ (by omega)
                have e3 : (l.s != l.s) = false := by simp
                have e4 : (l.q != l.q) = false := by simp
                have e5 : (l.n != l.n) = false := by simp
                clear hm q0 q1 q2 r0 r1 r2 hl4
                go_wp2_with fail
                go_quiet (fail)
                go_wp2_with fail
                go_roundw
                case rel => exact ⟨j4 + 1, by omega, by go_num, m + nq, by rw [HM.out, World.drewN_drewN]⟩
                case measure => simp only [intOf]; omega
              · obtain rfl : j4 = n := by omega
                have hbm : Below wl.heap.size wl wr := by rw [HM.out]; exact belowN_dS wl m
                have HSF : Hid (Below w.heap.size w wr) := Lib.hid ((HBC.out.trans (HST2.out.bel.mono HBC.out.size)).trans (hbm.mono (by have h1 := HBC.out.size; have h2 := HST2.out.bel.size; omega)))
                obtain ⟨x0, x1, x2, _, _, _⟩ := three (HST2.out.var.below hbm)
                obtain ⟨g10, hg10, hcb, _, _⟩ := HST2.out.turn 0
                subst hg10
                have hcb2 : wr.cell? ⟨g10, 0, none⟩ = some (.int .u8 121) := by rw [hm]; exact hcb
                clear hlt4 hj4 hm hcb
                go_wp2_with fail
                refine (hA _).mono ?_
                rintro e wz ⟨rfl, hb2⟩
                go_wp2_with fail
                go_ret
                exact ⟨rfl, HSF.out.trans (hb2.mono HSF.out.size)⟩
end Go.Proofs.Ytcmjpjhaaookfaa
