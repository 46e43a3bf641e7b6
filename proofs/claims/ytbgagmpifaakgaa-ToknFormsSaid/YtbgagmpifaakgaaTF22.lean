/- TknSort4 -/
import Derived.Test.YtbgagmpifaakgaaTF21
import Derived.LoopIn
import Derived.LoopNIn
import Derived.OwnWalk
import Derived.OwnWalkIn
import Derived.Shelf.Abstract
import Derived.TacticsInMore
namespace Go.Proofs.Ytbgagmpifaakgaa
open Go.RowKit
set_option linter.unusedVariables false
attribute [local go_sem] Oper.semAt_some
set_option maxRecDepth 100000 in
theorem sort_few {W w : World} {A : Option Addr} {n c : Nat} {l : List Int} (h : OwnI W w A n c l) (hn : n ≤ 12) (hB : Below W.heap.size W w) :
    Calls Try.prog 33 #[.slice A n c] w (SortsI W w A n c l) := by
  have CL := Lib.hid (fun k => pdq_few k h hn hB)
  have hw : IntKind.u64.wrap (n : Int) = (n : Int) := IntWalk.u64_in _ (by omega)
  clear h hB
  go_enter Try.func33, Try.ntmps33
  go_wp2_with (first
    | (go_at_call 42; refine (len_few _ n (by omega)).mono ?_; rintro e w1 ⟨⟨k, rfl⟩, rfl⟩)
    | (go_at_call 41; refine (CL.out k).mono ?_; rintro e w1 ⟨rfl, l', h1, h2, h3, h4, h5⟩))
  go_end0
  exact ⟨rfl, l', h1, h2, h3, h4, h5⟩
theorem values_any (w : World) (A : Option Addr) (n c : Nat) : Calls Try.prog 27 #[.slice A n c] w fun e w' => e = .returned (.func (.func 34) #[] #[.pointer (some ⟨w.heap.size, 0, none⟩)]) ∧ w' = w.alloc (.cells #[.slice A n c] 22) := by
  go_enter Try.func27, Try.ntmps27
  go_wp2
  go_ret
  exact ⟨rfl, rfl⟩
set_option maxRecDepth 100000 in
set_option maxHeartbeats 2000000 in
theorem values_stops (F : Fence) (n : Nat) (hF : F.fn 34) (hro : F.round = none) (hn : 1 ≤ n) {zs : List Int} {A : Option Addr} {m c : Nat} (Bs : Nat) (ks : List Nat) (w : World)
    (hB : Blk w Bs 22 #[.slice A m c]) (hr : Rd w w.heap.size A m (iv zs)) (hk : ∀ g o, A = some ⟨g, o, none⟩ → 0 < m → g ∈ ks) (hks : ∀ k ∈ ks, k < w.heap.size) (hfit : m ≤ 100000) :
    SeqStopsK F n Try.prog 34 #[.pointer (some ⟨Bs, 0, none⟩)] (fun x : Int => #[Value.int .i64 x]) (KeepsK ks)
      (fun ys => ys = zs) (fun pre => pre <+: zs) m w := by
  intro l J Jx W hW hJ hJx hY hJ0
  have hm : zs.length = m := by have := hr.1; rwa [iv_length] at this
  have hcs := (hB.below hW).cell 0
  simp at hcs
  have hrW := hr.below hW
  refine callsIn_of_wp Try.func34 rfl hF ?_ hro
  simp only [Try.ntmps34, List.size_toArray, List.length_cons, List.length_nil, Nat.reduceAdd, Nat.reduceSub, Array.replicate_succ, Array.replicate_zero, List.push_toArray, List.append_toArray, List.nil_append, List.cons_append]
  gi_wp2
  gi_loopw [7] (fun i wr => ∃ (k : Nat) (pre : List Int), k ≤ m ∧ i = .int .i64 (k : Int) ∧ Hid (pre = zs.take k) ∧ J pre wr ∧ KeepsK ks W wr) (fun i _ => m - (intOf i).toNat)
  case atStart => exact ⟨0, [], Nat.zero_le _, rfl, Lib.hid (by simp), hJ0, ⟨Nat.le_refl _, fun _ _ => rfl⟩⟩
  case round =>
    obtain ⟨k, pre, hk1, rfl, HP, hJs, hkk⟩ := hrel
    by_cases hlt : k < m
    · obtain ⟨z, hz⟩ : ∃ z, zs[k]? = some z := ⟨_, List.getElem?_eq_getElem (by omega)⟩
      obtain ⟨g, o, rfl, _⟩ := hrW.int_at hlt
      have hcx := (World.cell?_of_block (a := ⟨g, o + k, none⟩) (hkk.2 g (hk g o rfl (by omega)))).trans (hrW.int_cell hlt hz)
      have hlen : pre.length < m := by have := HP.out; subst this; rw [List.length_take]; omega
      obtain ⟨fn, tmps, assign, body, hy, hR⟩ := hY pre z _ hJs hlen
      have hlt' : (k : Int) < (m : Int) := by omega
      have HZ := Lib.hid hz
      have HM := Lib.hid hm
      have HR := Lib.hid hR
      have hwi : IntKind.i64.wrap ((k : Int) + 1) = (k : Int) + 1 := IntWalk.i64_in _ (by omega)
      have HT : Hid (zs.take (k + 1) = zs.take k ++ [z]) := Lib.hid (by rw [List.take_add_one, hz]; rfl)
      clear hrW hr hY hm hR hz hlen
      gi_wp2
      refine HR.out.mono ?_
      rintro e W3 (⟨rfl, hJ3, hk3⟩ | ⟨rfl, hJx3⟩)
      · gi_wp2
        go_roundw
        case rel =>
          refine ⟨k + 1, pre ++ [z], by omega, by go_num, Lib.hid (by rw [HP.out, HT.out]), hJ3, keepsK_t hkk hk3⟩
        case measure => simp [intOf]; omega
      · gi_wp2
        refine bodyPost_ret (results_none rfl _ _ _) rfl ?_
        refine ⟨⟨_, rfl⟩, .inr ⟨pre ++ [z], ?_, hJx3⟩⟩
        rw [HP.out, ← HT.out]
        exact List.take_prefix _ _
    · obtain rfl : k = m := by omega
      clear hrW hr hY
      gi_wp2
      go_end0
      refine ⟨⟨_, rfl⟩, .inl ⟨pre, ?_, hJs⟩⟩
      rw [HP.out, List.take_of_length_le (by omega)]
theorem adr9 (b o q : Nat) : (⟨b, o, none⟩ : Addr).add q = ⟨b, o + q, none⟩ := by unfold Addr.add; split <;> simp_all
set_option maxRecDepth 100000 in
set_option maxHeartbeats 4000000 in
theorem appendSeq_any {w : World} {zs : List Int} {A : Option Addr} {m c : Nat} (Bs : Nat) (hB : Blk w Bs 22 #[.slice A m c]) (hr : Rd w w.heap.size A m (iv zs)) (hfit : m ≤ 100000) :
    Calls Try.prog 40 #[.slice none 0 0, .func (.func 34) #[] #[.pointer (some ⟨Bs, 0, none⟩)]] w (GotI w w zs) := by
  obtain ⟨i1, hi1, hi2, hi3, hi4⟩ := info_parts cellI.info
  have HJ1 := Lib.hid hi1
  have HJ2 := Lib.hid hi2
  have HJ3 := Lib.hid hi3
  have HJ4 := Lib.hid hi4
  obtain rfl : zs.length = m := by have := hr.1; rwa [iv_length] at this
  obtain ⟨Ba, hBa⟩ : ∃ B, w.heap.size = B := ⟨_, rfl⟩
  obtain ⟨y1, hy1⟩ : ∃ y, y = w.alloc (.cells #[.slice none 0 0] 22) := ⟨_, rfl⟩
  have hba : Blk y1 Ba 22 #[.slice none 0 0] := by rw [hy1, ← hBa]; exact Blk.new _ _ _
  have hB1 : Blk y1 Bs 22 #[.slice A zs.length c] := by rw [hy1]; exact hB.alloc _
  have hsz : y1.heap.size = Ba + 1 := by rw [hy1, ← hBa]; simp
  have hr1 : Rd y1 y1.heap.size A zs.length (iv zs) := by rw [hy1]; exact (hr.below ((Below.refl _ _).alloc (Nat.le_refl _) _)).fit
  have hbl : Below w.heap.size w y1 := by rw [hy1]; exact (Below.refl _ _).alloc (Nat.le_refl _) _
  obtain ⟨ks, hks1, hks2⟩ : ∃ ks : List Nat, (∀ g o, A = some ⟨g, o, none⟩ → 0 < zs.length → g ∈ ks) ∧ ∀ k ∈ ks, k < Ba := by
    rcases Nat.eq_zero_or_pos zs.length with h | h
    · exact ⟨[], fun _ _ _ h' => by omega, fun k hk => by cases hk⟩
    · obtain ⟨b, o, rfl, hb, _⟩ := hr.2 h
      exact ⟨[b], fun g o' h1 _ => by injection h1 with h1; injection h1 with h1; simp [h1], fun k hk => by simp at hk; subst hk; omega⟩
  clear hi1 hi2 hi3 hi4 hr hB
  refine calls_of_wp_marks Try.func40 rfl ?_
  simp only [Try.ntmps40, List.size_toArray, List.length_cons, List.length_nil, Nat.reduceAdd, Nat.reduceSub, Array.replicate_succ, Array.replicate_zero, List.push_toArray, List.append_toArray, List.nil_append, List.cons_append]
  go_wp2_with fail
  rw [← hy1]
  clear hy1
  refine wp_marked (fun D W => ColI y1 Ba 22 3 zs W) ?_ ?_
  · refine (wpIn_wide (n := 20)).1 ?_
    refine wpIn_rangeFunc_ownG (α := Int) rfl (by omega) (gf := 34) (lb := #[.pointer (some ⟨Bs, 0, none⟩)]) rfl trivial (Go.Proofs.enters_of Try.func34 (by kernel_rfl) rfl)
      (values_stops Fence.wide 19 trivial rfl (by omega) Bs ks y1 hB1 hr1 hks1 (fun k hk => by have := hks2 k hk; omega) hfit)
      keepsK_t (keepsK_b (fun k hk => by have := hks2 k hk; omega)) (Below.refl _ _) (fun _ => rfl)
      (fun pre W => ColI y1 Ba 22 3 pre W)
      (fun _ _ _ => False)
      (colI_own y1 Ba _ _ _)
      (fun _ _ _ _ _ hs _ _ => hs)
      (colI_start hba)
      ?a₁ ?assign ?body ?done ?stop
    case assign =>
      intro l x W K hK
      gi_wp2
      exact hK
    case body =>
      rintro l pre x W ⟨⟨A1, n1, c1, hb, ho⟩, hg⟩ hlen
      have hnl : pre.length = n1 := by have := ho.1; rw [iv_length] at this; omega
      have hn40 : n1 ≤ 100000 := by omega
      have hcc := hb.cell 0
      simp at hcc
      have HBx := Lib.hid hb
      have HOx := Lib.hid ho
      have HGx := Lib.hid hg
      have hszz : y1.heap.size ≤ W.heap.size := hg.size
      clear hb ho hg hnl
      gi_wp2_with (gi_at_builtin; refine wpListIn_append_own _ rfl (.tmp 8) (.tmp 10) 22 rfl y1.heap.size 3 i1 (.int .i64 0) 1 8 Try.underlying22 HJ1.out HJ2.out HJ3.out HJ4.out rfl (by decide) (.slice A1 n1 c1) n1 _ rfl (HOx.out.alloc _) ⟨W.heap.size, 0, none⟩ 1 1 [.int .i64 x] rfl rfl (fun q u hu => by
          rw [adr9, Nat.zero_add, World.cell?_alloc_mark]; simpa using hu) (by intro u hu; simp at hu; subst hu; rfl) (by unfold maxLen; omega) (by omega) (by simp; omega) ?_; intro v' w3 hown3 hgrow3 hnil3; obtain ⟨g', cap', rfl⟩ := ownsRow_succ hown3; obtain ⟨t5, t6, t7, t8⟩ := colI_step HBx.out HOx.out HGx.out (by omega) hown3 hgrow3; have d5 := t5.cell 0; have e5 := t5.frozen 0; simp at d5; have T6 := Lib.hid t6; have T7 := Lib.hid t7; have T8 := Lib.hid (t8 ks (fun k hk => ⟨by have := hks2 k hk; omega, by have := hks2 k hk; omega⟩)); clear t5 t6 t7 t8 hown3 hgrow3 hnil3 hcc)
      exact ⟨T7.out, T8.out, T6.out⟩
    case done =>
      rintro D ys W hD hys hI hK
      subst hys
      exact ⟨rfl, D, rfl, hK, hD, hI⟩
    case stop =>
      rintro D c pre W _ _ h _
      exact h.elim
  intro D W hK hD hI
  obtain ⟨⟨A1, n1, c1, hb, ho⟩, hg⟩ := hI
  have hcc := hb.cell 0
  simp at hcc
  have hn1 : n1 = zs.length := by have := ho.1; rw [iv_length] at this; omega
  subst hn1
  have HO := Lib.hid ho
  have HG := Lib.hid hg
  have HK := Lib.hid hK
  have HBL := Lib.hid hbl
  clear hb ho hg hK hba hB1 hr1 hbl
  go_wp2_with fail
  refine ⟨by simp, .inl ⟨_, _, rfl, run_takeDeferred HK.out, ?_⟩⟩
  refine ⟨_, results_tmp rfl _ _ _, ?_⟩
  have hWs : y1.heap.size ≤ W.heap.size := HG.out.size
  have hBW : Below w.heap.size w W := HBL.out.trans (grown_below HG.out (by omega) (by omega))
  have hBF : Below w.heap.size w (W.putObj D (.deferred none)) := hBW.trans (belowK_b (w := y1) (by omega) W D _ _ hD HK.out rfl rfl)
  exact ⟨A1, c1, rfl, own_of (by omega) (ownsRow_putObj HO.out _ HK.out rfl), hBF, hBF⟩
theorem collect_any {w : World} {zs : List Int} {A : Option Addr} {m c : Nat} (Bs : Nat) (hB : Blk w Bs 22 #[.slice A m c]) (hr : Rd w w.heap.size A m (iv zs)) (hfit : m ≤ 100000) :
    Calls Try.prog 32 #[.func (.func 34) #[] #[.pointer (some ⟨Bs, 0, none⟩)]] w (GotI w w zs) := by
  have CL := Lib.hid (appendSeq_any Bs hB hr hfit)
  clear hB hr
  go_enter Try.func32, Try.ntmps32
  go_wp2_with (go_at_call 40; refine CL.out.mono ?_; rintro e w1 ⟨A1, c1, rfl, h2, h3, h4⟩)
  go_ret
  exact ⟨A1, c1, rfl, h2, h3, h4⟩
/-- few integers in order, anew -/
def SortedI (W w : World) (l : List Int) (e : Ending) (w' : World) : Prop := ∃ A c l', e = .returned (.slice A l'.length c) ∧ OwnI W w' A l'.length c l' ∧ l'.Perm l ∧ Ord l' ∧ Below W.heap.size W w' ∧ Below w.heap.size w w'
theorem sorted_any {w : World} {zs : List Int} {A : Option Addr} {m c : Nat} (Bs : Nat) (hB : Blk w Bs 22 #[.slice A m c]) (hr : Rd w w.heap.size A m (iv zs)) (hfit : m ≤ 12) :
    Calls Try.prog 26 #[.func (.func 34) #[] #[.pointer (some ⟨Bs, 0, none⟩)]] w (SortedI w w zs) := by
  have CL := Lib.hid (collect_any Bs hB hr (by omega))
  obtain rfl : zs.length = m := by have := hr.1; rwa [iv_length] at this
  clear hB hr
  go_enter Try.func26, Try.ntmps26
  go_wp2_with fail
  refine CL.out.mono ?_
  rintro e w1 ⟨A1, c1, rfl, h2, h3, h4⟩
  have HO := Lib.hid (sort_few h2 (by omega) h3)
  clear h2 h3 h4 CL
  go_wp2_with fail
  refine HO.out.mono ?_
  rintro e w2 ⟨rfl, l', h1, h2, h3, h4, h5⟩
  clear HO
  go_wp2_with fail
  go_ret
  have e1 : zs.length = l'.length := h2.length_eq.symm
  rw [e1] at h1 ⊢
  exact ⟨A1, c1, l', rfl, h1, h2, h3, h4, h4⟩
end Go.Proofs.Ytbgagmpifaakgaa

