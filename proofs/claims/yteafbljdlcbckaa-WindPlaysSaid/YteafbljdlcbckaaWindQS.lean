/- Going through a window, for one type of things: Clone, rising, All, and what 'range over a function' asks of them. -/
import Derived.Test.YteafbljdlcbckaaWindTS
import Derived.Test.YteafbljdlcbckaaRangeKit
import Derived.RangeFuncNested
import Derived.RangeFuncBound
import Derived.RangeFuncCalls
import Derived.RangeFuncLeaves
import Derived.RangeFuncBox
import Derived.OwnWalkIn
import Derived.TacticsInMore
import Derived.LoopNIn
import Derived.LoopIn
import Derived.Deep.RegionHeld3
import Derived.Deep.DrawnRows
import Derived.Deep.DeepCutAuto
import Derived.Deep.CutBlock
namespace Go.Proofs.Yteafbljdlcbckaa.WS
open Go.RowKit
set_option linter.unusedVariables false
attribute [local go_sem] Oper.semAt_some

set_option maxRecDepth 100000 in
theorem clone_any (w : World) (base : Nat) (A : Option Addr) (n c : Nat) (ss : List (Option V)) (h : OffRow w base 73 2 A n c (cellsOf ss)) (hn : Fit n) :
    Calls Try.prog 40 #[.slice A n c] w fun e w' => ∃ A' c', e = .returned (.slice A' n c') ∧ OffRow w' w.heap.size 73 2 A' n c' (cellsOf ss) ∧ Below w.heap.size w w' := by
  rcases h.blk with ⟨rfl, rfl⟩ | ⟨g, o, cur, rfl, hg, _, _, _⟩
  · obtain rfl : n = 0 := by have := h.le; omega
    have hs : ss = [] := List.eq_nil_of_length_eq_zero (len_of h)
    subst hs
    clear h hn
    have he : ∀ w : World, (binOp .eql 69 (.slice none 0 0) (.slice none 0 0)).run Try.prog w = .ok (.bool true) w := fun _ => rfl
    go_enter Try.func40, Try.ntmps40
    go_wp2
    go_ret
    exact ⟨none, 0, rfl, OffRow.nil _ _ _ _, Below.refl _ _⟩
  · obtain ⟨i0, hi, hz0, hz1, hz2⟩ := info_parts slotT
    have hB0 := Below.refl w.heap.size w
    have H := Lib.hid h
    have hl := Lib.hid h.len
    have hI := Lib.hid hi
    have hZ0 := Lib.hid hz0
    have hZ1 := Lib.hid hz1
    have hZ2 := Lib.hid hz2
    have he : ∀ w : World, (binOp .eql 69 (.slice (some ⟨g, o, none⟩) n c) (.slice none 0 0)).run Try.prog w = .ok (.bool false) w := fun _ => rfl
    clear h hg hi hz0 hz1 hz2
    go_enter Try.func40, Try.ntmps40
    go_wp2_with (at_builtin; refine wpList_append_own _ rfl (.tmp 5) (.tmp 6) 69 rfl w.heap.size 73 i0 _ 2 24 Try.underlying69 hI.out hZ0.out hZ1.out hZ2.out rfl (by decide) _ 0 [] rfl (World.ownsRow_made w #[] 0 (Nat.le_refl _) (by decide) rfl) ⟨g, o, none⟩ n c (cellsOf ss) rfl hl.out (fun j u hu => by
        have hj : j < n * 2 := by rw [← hl.out]; exact (List.getElem?_eq_some_iff.1 hu).1
        rw [addr_add]
        exact ((H.out.alloc _).cell hj).trans hu) (cells_one ss) (by have := hn.out; unfold maxLen; omega) (by have := hn.out; omega) (by simp) ?_; intro v' w1 hown1 hgrow hnil)
    simp only [Nat.zero_add, List.nil_append] at hown1
    obtain ⟨A1, c1, rfl⟩ : ∃ A1 c1, v' = .slice A1 n c1 := by
      rcases hown1.2 with ⟨h1, h2⟩ | ⟨g1, cap1, cur1, h1, _⟩
      · subst h2; exact ⟨none, 0, h1⟩
      · exact ⟨_, _, h1⟩
    have hr := OffRow.of_own hown1
    have hB1 : Below w.heap.size w w1 := (hB0.alloc (Nat.le_refl _) _).grown hgrow (by simp) (fun k hk => by injection hk with hk; subst hk; exact Nat.le_refl _)
    clear hown1 hgrow hnil
    go_wp2
    go_ret
    exact ⟨A1, c1, rfl, hr, hB1⟩
theorem rising_any (w : World) (first : Int) (A : Option Addr) (n c : Nat) :
    Calls Try.prog 39 #[.int .i64 first, .slice A n c] w fun e w' => e = .returned (.func (.func 41) #[] #[.pointer (some ⟨w.heap.size + 1, 0, none⟩), .pointer (some ⟨w.heap.size, 0, none⟩)]) ∧
      w' = (w.alloc (.cells #[.int .i64 first] 3)).alloc (.cells #[.slice A n c] 69) := by
  go_enter Try.func39, Try.ntmps39
  go_wp2
  go_ret
  exact ⟨rfl, rfl⟩
/-- what there is to go through, as a value: the closure, and its two boxes -/
def SeqAt (w : World) (base : Nat) (first : Int) (ss : List (Option V)) (Bs Bf : Nat) (ks : List Nat) : Prop :=
  ∃ A n c, Blk w Bs 69 #[.slice A n c] ∧ Blk w Bf 3 #[.int .i64 first] ∧ OffRow w base 73 2 A n c (cellsOf ss) ∧ Bf ∈ ks ∧ (∀ g o, A = some ⟨g, o, none⟩ → g ∈ ks) ∧ ∀ k ∈ ks, base ≤ k ∧ k < w.heap.size
theorem SeqAt.drew {w : World} {base : Nat} {first : Int} {ss : List (Option V)} {Bs Bf : Nat} {ks : List Nat} (h : SeqAt w base first ss Bs Bf ks) : SeqAt w.drew base first ss Bs Bf ks := by
  obtain ⟨A, n, c, h1, h2, h3, h4⟩ := h
  exact ⟨A, n, c, h1, h2, h3.below (Below.refl _ _).drew, h4⟩
theorem seq_of {w : World} {first : Int} {A : Option Addr} {n c : Nat} {ss : List (Option V)} {base : Nat} (hr : OffRow w base 73 2 A n c (cellsOf ss)) (hbase : base ≤ w.heap.size) :
    ∃ ks, SeqAt ((w.alloc (.cells #[.int .i64 first] 3)).alloc (.cells #[.slice A n c] 69)) base first ss (w.heap.size + 1) w.heap.size ks ∧ ∀ k ∈ ks, k = w.heap.size ∨ ∃ o, A = some ⟨k, o, none⟩ := by
  have h1 := Blk.new (w.alloc (.cells #[.int .i64 first] 3)) 69 #[.slice A n c]
  rw [World.size_alloc] at h1
  rcases hr.blk with ⟨rfl, hc⟩ | ⟨g, o, cur, rfl, hg, hb, _⟩
  · refine ⟨[w.heap.size], ⟨none, n, c, h1, (Blk.new w _ _).alloc _, (hr.alloc _).alloc _, by simp, (fun g o h => by cases h), fun k hk => ?_⟩, fun k hk => ?_⟩
    · simp at hk; subst hk; simp; omega
    · simp at hk; exact .inl hk
  · refine ⟨[w.heap.size, g], ⟨some ⟨g, o, none⟩, n, c, h1, (Blk.new w _ _).alloc _, (hr.alloc _).alloc _, by simp, (fun g' o' h => by injection h with h; injection h with h1; simp [h1]), fun k hk => ?_⟩, fun k hk => ?_⟩
    · have := hb.lt
      simp at hk
      rcases hk with rfl | rfl
      · simp; omega
      · exact ⟨hg, by simp; omega⟩
    · simp at hk
      rcases hk with rfl | rfl
      · exact .inl rfl
      · exact .inr ⟨o, rfl⟩
set_option maxRecDepth 100000 in
theorem all_any (w : World) (base b fr wh : Nat) (ss : List (Option V)) (h : WinR w base b fr wh ss) :
    Calls Try.prog 31 #[.pointer (some ⟨b, 0, none⟩)] w fun e w' => ∃ Bs Bf ks, e = .returned (.func (.func 41) #[] #[.pointer (some ⟨Bs, 0, none⟩), .pointer (some ⟨Bf, 0, none⟩)]) ∧
      SeqAt w' w.heap.size ((fr : Int) + 1) ss Bs Bf ks ∧ w.heap.size ≤ Bf ∧ Bf < Bs ∧ Bs < w'.heap.size ∧ Below w.heap.size w w' := by
  obtain ⟨A, n, c, h1, h2, h3, h4⟩ := h
  have hb1 := h1.lt
  have hc0 := h1.cell 0
  have hc2 := h1.cell 2
  simp at hc0 hc2
  have HN := Lib.hid (show Fit n by have := h4.out; unfold Fit; omega)
  have hfr : (fr : Int) ≤ 2000000000000 := by have := h4.out; omega
  have HR0 := Lib.hid h2
  clear h1 h2 h3 h4
  go_enter Try.func31, Try.ntmps31
  go_upto_region 1 with fail
  refine wp_region_held_drew (S := fun wq => Below w.heap.size w.drew wq) (by kernel_rfl) (Below.refl _ _) (fun _ => ?_)
  have HB0 := Lib.hid (Below.refl w.heap.size w.drew)
  have HR := Lib.hid (HR0.out.below (Below.refl _ _).drew)
  refine wpAnyH_take (i := 0) (v := .pointer (some ⟨b, 0, none⟩)) rfl (by kernel_rfl) (by kernel_rfl) (by kernel_rfl) (fun _ _ _ h => h) (Or.inl ⟨by kernel_rfl, fun w _ => by go_simp⟩) HB0.out ?_
  refine wpAnyH_take (i := 1) (v := .pointer (some ⟨b, 0, none⟩)) rfl (by kernel_rfl) (by kernel_rfl) (by kernel_rfl) (fun _ _ _ h => h) (Or.inl ⟨by kernel_rfl, fun w _ => by go_simp⟩) HB0.out ?_
  refine wpAnyH_take (i := 2) (v := .pointer (some ⟨b, 0, none⟩)) rfl (by kernel_rfl) (by kernel_rfl) (by kernel_rfl) (fun _ _ _ h => h) (Or.inl ⟨by kernel_rfl, fun w _ => by go_simp⟩) HB0.out ?_
  refine wpAnyH_take (i := 3) (v := .int .i64 (fr : Int)) rfl (by kernel_rfl) (by kernel_rfl) (by kernel_rfl) (fun _ _ _ h => h) (Or.inl ⟨by kernel_rfl, fun wq h => by have hf := (h.cell (p := ⟨b, 0, none⟩) hb1).trans hc0; go_simp⟩) HB0.out ?_
  refine wpAnyH_take (i := 4) (v := .int .i64 ((fr : Int) + 1)) rfl (by kernel_rfl) (by kernel_rfl) (by kernel_rfl) (fun _ _ _ h => h) (Or.inl ⟨by kernel_rfl, fun w _ => by go_simp; exact IntWalk.i64_in _ (by omega)⟩) HB0.out ?_
  refine wpAnyH_take (i := 5) (v := .pointer (some ⟨b, 0, none⟩)) rfl (by kernel_rfl) (by kernel_rfl) (by kernel_rfl) (fun _ _ _ h => h) (Or.inl ⟨by kernel_rfl, fun w _ => by go_simp⟩) HB0.out ?_
  refine wpAnyH_take (i := 6) (v := .pointer (some ⟨b, 0, none⟩)) rfl (by kernel_rfl) (by kernel_rfl) (by kernel_rfl) (fun _ _ _ h => h) (Or.inl ⟨by kernel_rfl, fun w _ => by go_simp⟩) HB0.out ?_
  refine wpAnyH_take (i := 7) (v := .pointer (some ⟨b, 2, none⟩)) rfl (by kernel_rfl) (by kernel_rfl) (by kernel_rfl) (fun _ _ _ h => h) (Or.inl ⟨by kernel_rfl, fun w _ => by go_simp⟩) HB0.out ?_
  refine wpAnyH_take (i := 8) (v := .slice A n c) rfl (by kernel_rfl) (by kernel_rfl) (by kernel_rfl) (fun _ _ _ h => h) (Or.inl ⟨by kernel_rfl, fun wq h => by have hf := (h.cell (p := ⟨b, 2, none⟩) hb1).trans hc2; go_simp⟩) HB0.out ?_
  refine wpAnyH_ready (rs := [9]) (by kernel_rfl) (by simp) ?_
  refine AllReadyH.cons rfl (fun K hK => ?_) AllReadyH.nil
  go_simp
  refine (clone_any _ base A n c ss HR.out HN.out).mono ?_
  rintro e w2 ⟨A1, c1, rfl, hr2, hB2⟩
  have HB2 := Lib.hid hB2
  have HR2 := Lib.hid hr2
  clear hB2 hr2
  go_simp
  refine hK.out _ _ HB2.out (fun _ => ?_)
  clear hK K
  refine wpAnyH_ready (rs := [10]) (by kernel_rfl) (by simp) ?_
  refine AllReadyH.cons rfl (fun K hK => ?_) AllReadyH.nil
  go_simp
  refine (rising_any _ _ _ _ _).mono ?_
  rintro e w3 ⟨rfl, rfl⟩
  go_simp
  refine hK.out _ _ ((HB2.out.alloc HB2.out.size _).alloc (by simp; exact Nat.le_succ_of_le HB2.out.size) _) (fun _ => ?_)
  clear hK K
  refine wpAnyH_ready (rs := [11]) (by kernel_rfl) (by simp) ?_
  refine AllReadyH.cons rfl (fun K hK => ?_) AllReadyH.nil
  go_simp
  refine hK.out _ _ ((HB2.out.alloc HB2.out.size _).alloc (by simp; exact Nat.le_succ_of_le HB2.out.size) _) (fun _ => ?_)
  clear hK K
  refine wpAnyH_done (by kernel_rfl) ?_ _
  go_wp2
  go_ret
  have hsz := HB2.out.size
  have hB : Below w.heap.size w w2 := (Below.refl w.heap.size w).drew.trans HB2.out
  obtain ⟨ks, hks, _⟩ := seq_of (first := (fr : Int) + 1) HR2.out hsz
  exact ⟨_, _, ks, rfl, hks, hsz, by omega, by simp, (hB.alloc hsz _).alloc (by simp; exact Nat.le_succ_of_le hsz) _⟩
theorem cell_alloc_of {w : World} {p : Addr} {v : Value} {o : Obj} (h : w.cell? p = some v) : (w.alloc o).cell? p = some v := (World.cell?_of_block (Below.heap_alloc w o p.block (World.block_lt_of_cell? w _ h))).trans h
set_option maxRecDepth 100000 in
set_option maxHeartbeats 2000000 in
theorem rising_stops (F : Fence) (n : Nat) (hF : F.fn 41) (hro : F.round = none) (hn : 1 ≤ n) (P : Int × V → Prop) (base : Nat) (first : Int) (ss : List (Option V)) (Bs Bf : Nat) (ks : List Nat) (w : World)
    (h : SeqAt w base first ss Bs Bf ks) (hP : ∀ x ∈ Wd.pairs first ss, P x) (h0 : 0 ≤ first) (h1 : first ≤ 3000000000000) (hfit : Fit ss.length) :
    SeqStopsK F n Try.prog 41 #[.pointer (some ⟨Bs, 0, none⟩), .pointer (some ⟨Bf, 0, none⟩)] (fun x : { x : Int × V // P x } => #[Value.int .i64 x.1.1, enc x.1.2]) (KeepsK ks)
      (fun ys => ys.map Subtype.val = Wd.pairs first ss) (fun pre => pre.map Subtype.val <+: Wd.pairs first ss) ss.length w := by
  intro l J Jx W hW hJ hJx hY hJ0
  obtain ⟨A, m, c, hBs, hBf, hr, hf, hA, hk⟩ := h
  have hm := len_of hr
  have hcs := (hBs.below hW).cell 0
  have hcf := (hBf.below hW).cell 0
  simp at hcs hcf
  have hrW := hr.below hW
  have hkW : ∀ k ∈ ks, k < W.heap.size := fun k hk' => Nat.lt_of_lt_of_le (hk k hk').2 hW.size
  have hmm : (m : Int) ≤ 2000000000000 := by have := hfit.out; omega
  refine callsIn_of_wp Try.func41 rfl hF ?_ hro
  simp only [Try.ntmps41, List.size_toArray, List.length_cons, List.length_nil, Nat.reduceAdd, Nat.reduceSub, Array.replicate_succ, Array.replicate_zero, List.push_toArray, List.append_toArray, List.nil_append, List.cons_append]
  have he : ∀ w : World, (binOp .eql 63 (.func (.yield l) #[] #[]) .nilFunc).run Try.prog w = .ok (.bool false) w := fun _ => rfl
  gi_wp2
  gi_loopw [10] (fun i wr => ∃ (k : Nat) (pre : List { x : Int × V // P x }), k ≤ m ∧ i = .int .i64 (k : Int) ∧ pre.map Subtype.val = Wd.pairs first (ss.take k) ∧ J pre wr ∧ KeepsK ks W wr) (fun i _ => m - (intOf i).toNat)
  case atStart => exact ⟨0, [], Nat.zero_le _, rfl, by simp [Wd.pairs], hJ0, ⟨Nat.le_refl _, fun _ _ => rfl⟩⟩
  case round =>
    obtain ⟨k, pre, hk1, rfl, hpre, hJs, hks⟩ := hrel
    have hsz := hks.1
    by_cases hlt : k < m
    · obtain ⟨g, o, cur, rfl, hg, _, _, _⟩ := hrW.addr (by have := hrW.le; omega)
      obtain ⟨s, hs⟩ : ∃ s, ss[k]? = some s := ⟨_, List.getElem?_eq_getElem (by omega)⟩
      have hgk := hA g o rfl
      have hcx := (World.cell?_of_block (a := ⟨g, o + k * 2, none⟩) (hks.2 g hgk)).trans (hrW.cell (i := k * 2) (by omega))
      have hcy := (World.cell?_of_block (a := ⟨g, o + (k * 2 + 1), none⟩) (hks.2 g hgk)).trans ((hrW.cell (i := k * 2 + 1) (by omega)).trans (Wd.cells_there enc zero hs))
      rw [← Nat.add_assoc] at hcy
      have hcf' := (World.cell?_of_block (a := ⟨Bf, 0, none⟩) (hks.2 Bf hf)).trans hcf
      have htk : Wd.pairs first (ss.take (k + 1)) = Wd.pairs first (ss.take k) ++ Wd.pairs (first + (k : Int)) [s] := by
        rw [List.take_add_one, hs, Option.toList, Wd.pairs_append, List.length_take]
        congr 2; omega
      cases s with
      | none =>
        rw [Wd.cells_any enc zero (by omega)] at hcx
        have hs' : ss[k]'(by omega) = none := by rw [List.getElem?_eq_getElem (by omega)] at hs; injection hs
        rw [hs'] at hcx
        have HT := Lib.hid htk
        have HJ := Lib.hid hJs
        have HP := Lib.hid hpre
        clear hs hs' htk hrW hr hY hJs hpre hm hP hA
        have hcy' : wr.cell? ⟨g, o + k * 2 + 1, none⟩ = some (.bool false) := hcy
        clear hcy
        gi_wp2
        refine ⟨fun _ h => (by cases h), ?_⟩
        gi_wp2
        go_roundw
        case rel =>
          refine ⟨k + 1, pre, by omega, by go_num, ?_, hJ _ _ _ none HJ.out (World.grownBy_alloc _ _ none) (fun r e => by cases e), keepsK_t hks (keepsK_grown (World.grownBy_alloc _ _ none) (fun k hk' => Nat.lt_of_lt_of_le (hkW k hk') hsz) (by simp))⟩
          rw [HP.out, HT.out]; simp [Wd.pairs]
        case measure => simp [intOf]; omega
      | some v =>
        rw [Wd.cells_x enc zero hs] at hcx
        have hcy' : wr.cell? ⟨g, o + k * 2 + 1, none⟩ = some (.bool true) := hcy
        have hmem : (first + (k : Int), v) ∈ Wd.pairs first ss := Wd.mem_pairs.2 ⟨k, hs, rfl⟩
        have hlen : pre.length < ss.length := by
          have e1 : (pre.map Subtype.val).length = (Wd.pairs first (ss.take k)).length := by rw [hpre]
          have e2 := Wd.pairs_length first (ss.take k)
          simp at e1 e2; omega
        have hJ1 := hJ _ _ _ none hJs (World.grownBy_alloc wr (.cells #[enc v, .bool true] 73) none) (fun r e => by cases e)
        obtain ⟨xx, hxx⟩ : ∃ xx : { x : Int × V // P x }, xx.1 = (first + (k : Int), v) := ⟨⟨_, hP _ hmem⟩, rfl⟩
        obtain ⟨fn, tmps, assign, body, hy, hR⟩ := hY pre xx _ hJ1 hlen
        rw [hxx] at hy
        dsimp only [enc] at hy
        have hcf2 : (wr.alloc (.cells #[enc v, .bool true] 73)).cell? ⟨Bf, 0, none⟩ = some (.int .i64 first) := (cell_alloc_of hcf')
        dsimp only [enc] at hcf2
        have hw1 : IntKind.i64.wrap (first + (k : Int)) = first + (k : Int) := IntWalk.i64_in _ (by omega)
        have hlt' : (k : Int) < (m : Int) := by omega
        have HX := Lib.hid hxx
        have HM := Lib.hid hm
        have HT := Lib.hid htk
        have HP := Lib.hid hpre
        have HR := Lib.hid hR
        have hks1 := keepsK_t hks (keepsK_grown (World.grownBy_alloc wr (.cells #[enc v, .bool true] 73) none) (fun k hk' => Nat.lt_of_lt_of_le (hkW k hk') hsz) (by simp))
        clear htk hrW hr hY hJs hpre hm hA hJ1 hcy hmem hlen hR hks hxx hP
        have HS := Lib.hid hs
        clear hs
        gi_wp2
        refine HR.out.mono ?_
        rintro e W3 (⟨rfl, hJ3, hk3⟩ | ⟨rfl, hJx3⟩)
        · gi_wp2
          go_roundw
          case rel =>
            refine ⟨k + 1, pre ++ [xx], by omega, by go_num, ?_, hJ3, keepsK_t hks1 hk3⟩
            rw [List.map_append, HP.out, HT.out]; simp [Wd.pairs, HX.out]
          case measure => simp [intOf]; omega
        · gi_wp2
          refine bodyPost_ret (results_none rfl _ _ _) rfl ?_
          refine ⟨⟨_, rfl⟩, .inr ⟨pre ++ [xx], ?_, hJx3⟩⟩
          have e1 : (pre ++ [xx]).map Subtype.val = Wd.pairs first (ss.take (k + 1)) := by rw [List.map_append, HP.out, HT.out]; simp [Wd.pairs, HX.out]
          rw [e1]
          refine ⟨Wd.pairs (first + (k + 1 : Nat)) (ss.drop (k + 1)), ?_⟩
          have e2 := Wd.pairs_append first (ss.take (k + 1)) (ss.drop (k + 1))
          rw [List.take_append_drop] at e2
          have e3 : (ss.take (k + 1)).length = k + 1 := by have := HM.out; rw [List.length_take]; omega
          rw [e2, e3]
    · obtain rfl : k = m := by omega
      have HP := Lib.hid hpre
      clear hpre hrW hr hY hA hP
      gi_wp2
      go_end0
      refine ⟨⟨_, rfl⟩, .inl ⟨pre, ?_, hJs⟩⟩
      rw [HP.out, List.take_of_length_le (by omega)]
end Go.Proofs.Yteafbljdlcbckaa.WS
