/- BoxKit MachChk2 -/
import Derived.Test.YtmekamgohonffaaGreatBT0H
import Derived.Test.YtmekamgohonffaaGreatBT00
import Derived.Test.YtmekamgohonffaaGreatBT41
import Derived.Test.YtmekamgohonffaaGreatBT45
import Derived.Deep.MidRow
import Derived.Deep.RegionWith
import Derived.OwnWalk
import Derived.WalkLawsBesides
import Derived.WalkSpells
namespace Go.Proofs.YtmekamgohonffaaGreat
open Go.RowKit
set_option linter.unusedVariables false
theorem boxed (w : World) (Z R : Array Value) (T : TypeId) : ∃ g w2, w.heap.size = g /\ (w.alloc (.cells Z T)).setRow g R = w2 /\ Below w.heap.size w w2 /\ Blk w2 g T R :=
 ⟨_, _, rfl, rfl, below_setRow ((Below.refl _ _).alloc lR _) lR _, (Blk.new _ _ _).row _⟩
theorem alloced (w : World) (R : Array Value) (T : TypeId) : ∃ g w2, w.heap.size = g /\ w.alloc (.cells R T) = w2 /\ Below w.heap.size w w2 /\ Blk w2 g T R :=
 ⟨_, _, rfl, rfl, (Below.refl _ _).alloc lR _, Blk.new _ _ _⟩
theorem wpList_load_rowV {P : Program} {ops : Array Oper} {rest : List Oper} {o : Oper} {a : Act} {w : World} {Q : Exit -> Act -> World -> Prop} (hgd : Region.wanted o (yielded ops a.tmps) = true) (ty : TypeId) (x : Operand) (ho : o.op = .load ty x)
 (g : Nat) (hx : a.eval x = .pointer (some ⟨g, 0, none⟩)) (t : TypeId) (cs : Array Value) (fr : Nat × Nat) (d : TypeDesc) (hg : w.heap[g]? = some (.cells cs t fr))
 (hu : P.underlying ty = some d) (hd : (match d with | .struct _ | .array _ _ => true | _ => false) = true) (hi : (P.info? ty).map (·.size) = some cs.size)
 (h : wpList P ops Q rest (a.put o.dst (.agg cs)) w) : wpList P ops Q (o :: rest) a w := by
 unfold wpList
 rw [if_pos hgd]
 exact Or.inl (wp_load_row ty x ho g hx t cs fr d hg hu hd hi h)
set_option maxRecDepth 100000 in
theorem badL_any (w : World) {A : Option Addr} {c : Nat} (l : Ls) :
 Calls Tryz.prog 95 #[.agg #[.int .i64 l.s, .int .i64 l.q, .int .i64 l.e, .slice A l.v.length c, .int .i64 l.n]] w fun e w' => e = .returned (.bool (decide (l.s < 1 \/ l.q < 1))) /\ Below w.heap.size w w' := by
 have b0 : Below w.heap.size w (w.alloc (.cells #[.int .i64 l.s, .int .i64 l.q, .int .i64 l.e, .slice A l.v.length c, .int .i64 l.n] 79)) := (Below.refl _ _).alloc lR _
 have HB := zH b0
 have HK := zH (Blk.new w 79 #[.int .i64 l.s, .int .i64 l.q, .int .i64 l.e, .slice A l.v.length c, .int .i64 l.n])
 clear b0
 by_cases h1 : l.s < 1
 · rw [decide_eq_true (Or.inl h1)]
   go_enter Tryz.func95, Tryz.ntmps95
   go_upto_region 1 with fail
   generalize w.alloc (.cells #[.int .i64 l.s, .int .i64 l.q, .int .i64 l.e, .slice A l.v.length c, .int .i64 l.n] 79) = wa at HB HK |-
   obtain ⟨x0, x1, _, _, _⟩ := five HK.out
   go_wp2_with fail
   go_ret
   exact ⟨rfl, HB.out⟩
 · by_cases h2 : l.q < 1
   · rw [decide_eq_true (Or.inr h2)]
     go_enter Tryz.func95, Tryz.ntmps95
     go_upto_region 1 with fail
     generalize w.alloc (.cells #[.int .i64 l.s, .int .i64 l.q, .int .i64 l.e, .slice A l.v.length c, .int .i64 l.n] 79) = wa at HB HK |-
     obtain ⟨x0, x1, _, _, _⟩ := five HK.out
     go_wp2_with fail
     go_ret
     exact ⟨rfl, HB.out⟩
   · rw [decide_eq_false (by omega)]
     go_enter Tryz.func95, Tryz.ntmps95
     go_upto_region 1 with fail
     generalize w.alloc (.cells #[.int .i64 l.s, .int .i64 l.q, .int .i64 l.e, .slice A l.v.length c, .int .i64 l.n] 79) = wa at HB HK |-
     obtain ⟨x0, x1, _, _, _⟩ := five HK.out
     go_wp2_with fail
     go_ret
     exact ⟨rfl, HB.out⟩
set_option maxHeartbeats 1000000 in
theorem indexFuncT_any (w : World) {n c B : Nat} {A : Option Addr} {ls : List Ls} (hn : n <= 100000) (h : RdL w B A n ls) :
 Calls Tryz.prog 119 #[.slice A n c, .func (.func 95) #[] #[]] w fun e w' => (∃ z : Int, e = .returned (.int .i64 z) /\ (0 <= z ↔ ∃ l ∈ ls, l.s < 1 \/ l.q < 1)) /\ Below w.heap.size w w' := by
 obtain rfl := h.length
 have H := zH h.fit
 clear h
 go_enter Tryz.func119, Tryz.ntmps119
 go_wp2_with fail
 go_loopw [5, 8] (fun s5 s8 wr => ∃ j : Nat, j <= ls.length /\ s8 = .int .i64 j /\ Hid (∀ (i : Nat) (m : Ls), i < j -> ls[i]? = some m -> ¬ (m.s < 1 \/ m.q < 1)) /\ Hid (Below w.heap.size w wr)) (fun _ s8 _ => ls.length - (intOf s8).toNat)
 case atStart => exact ⟨0, Nat.zero_le _, rfl, zH (fun i m hi => absurd hi (by omega)), zH (Below.refl _ _)⟩
 case round =>
  obtain ⟨j, hj, rfl, HS, HB0⟩ := hrel
  by_cases hlt : j < ls.length
  · obtain ⟨b, o, l, A1, c1, rfl, hl, y0, y1, y2, y3, y4, hrd⟩ := ((H.out.below HB0.out).fit).at hlt
    have HP := zH hl
    clear hl hrd
    by_cases he : l.s < 1 \/ l.q < 1
    · have HE := zH he
      have HD := zH (decide_eq_true he)
      clear he
      go_wp2_with (first
       | (go_at_call 95; refine (badL_any _ _).mono ?_; rw [HD.out]; rintro e w2 ⟨rfl, hb2⟩)
       | fail)
      go_ret
      exact ⟨⟨(j : Int), rfl, ⟨fun _ => ⟨l, List.mem_of_getElem? HP.out, HE.out⟩, fun _ => by omega⟩⟩, HB0.out.trans (hb2.mono HB0.out.size)⟩
    · have HE := zH he
      have HD := zH (decide_eq_false he)
      clear he
      go_wp2_with (first
       | (go_at_call 95; refine (badL_any _ _).mono ?_; rw [HD.out]; rintro e w2 ⟨rfl, hb2⟩)
       | fail)
      go_roundw
      case rel =>
       refine ⟨j + 1, by omega, by go_num, zH (fun i m hi hm => ?_), zH (HB0.out.trans (hb2.mono HB0.out.size))⟩
       rcases Nat.lt_or_ge i j with h1 | h1
       · exact HS.out i m h1 hm
       · obtain rfl : i = j := by omega
         rw [HP.out] at hm
         injection hm with hm
         subst hm
         exact HE.out
      case measure => simp [intOf]; omega
  · obtain rfl : j = ls.length := by omega
    go_wp2_with fail
    go_ret
    refine ⟨⟨-1, rfl, ⟨fun h => absurd h (by omega), ?_⟩⟩, HB0.out⟩
    rintro ⟨l, hl, hbad⟩
    obtain ⟨i, hi, e⟩ := List.getElem_of_mem hl
    exact absurd hbad (HS.out i l hi (by rw [List.getElem?_eq_getElem hi, e]))
theorem containsFuncT_any (w : World) {n c B : Nat} {A : Option Addr} {ls : List Ls} (hn : n <= 100000) (h : RdL w B A n ls) :
 Calls Tryz.prog 94 #[.slice A n c, .func (.func 95) #[] #[]] w fun e w' => e = .returned (.bool (decide (∃ l ∈ ls, l.s < 1 \/ l.q < 1))) /\ Below w.heap.size w w' := by
 have HC := zH (indexFuncT_any w (c := c) hn h)
 clear h
 obtain ⟨D, hD⟩ : ∃ D : Bool, decide (∃ l ∈ ls, l.s < 1 \/ l.q < 1) = D := ⟨_, rfl⟩
 have HD : Hid (D = true ↔ ∃ l ∈ ls, l.s < 1 \/ l.q < 1) := zH (by rw [<- hD]; exact decide_eq_true_iff)
 rw [hD]
 clear hD
 go_enter Tryz.func94, Tryz.ntmps94
 go_wp2_with (first
  | (go_at_call 119; refine HC.out.mono ?_; rintro e w2 ⟨⟨z, rfl, hz⟩, hb2⟩; have HZ := zH hz; have HB := zH hb2; clear hz hb2 HC)
  | fail)
 go_ret
 refine ⟨ret_bool ?_, HB.out⟩
 rw [Bool.eq_iff_iff]
 rw [HD.out, <- HZ.out]
 simp
theorem okT_of {ls : List Ls} (hb : ∀ l ∈ ls, l.s <= 1073741824 /\ l.q <= 1073741824) : okT ls = (chainB (fun a b : Ls => decide (a.s < b.s)) ls && !decide (∃ l ∈ ls, l.s < 1 \/ l.q < 1)) := by
 unfold okT
 rw [Bool.and_comm]
 congr 1
 rw [Bool.eq_iff_iff]
 simp only [List.all_eq_true, decide_eq_true_eq, Bool.not_eq_true', decide_eq_false_iff_not, not_exists, not_and]
 constructor
 · intro h l hl hbad
   have := h l hl
   unfold Tb.named at this
   omega
 · intro h l hl
   have h1 := h l hl
   have h2 := hb l hl
   unfold Tb.named
   omega
theorem isTable_any (w : World) {n c B : Nat} {A : Option Addr} {ls : List Ls} (hb : ∀ l ∈ ls, l.s <= 1073741824 /\ l.q <= 1073741824) (hn : n <= 1000) (h : RdL w B A n ls) :
 Calls Tryz.prog 65 #[.slice A n c] w fun e w' => e = .returned (.bool (okT ls)) /\ Below w.heap.size w w' := by
 rw [okT_of hb]
 have H := zH h.fit
 have HR := zH (isRisingT_any w (c := c) h hn)
 have HC : Hid (∀ wx, Below w.heap.size w wx -> Calls Tryz.prog 94 #[.slice A n c, .func (.func 95) #[] #[]] wx fun e w' => e = .returned (.bool (decide (∃ l ∈ ls, l.s < 1 \/ l.q < 1))) /\ Below wx.heap.size wx w') :=
  zH (fun wx hb => containsFuncT_any wx (by omega) (h.fit.below hb))
 clear h hb
 obtain ⟨D, hD⟩ : ∃ D : Bool, decide (∃ l ∈ ls, l.s < 1 \/ l.q < 1) = D := ⟨_, rfl⟩
 obtain ⟨C, hC⟩ : ∃ C : Bool, chainB (fun a b : Ls => decide (a.s < b.s)) ls = C := ⟨_, rfl⟩
 rw [hD] at HC |-
 rw [hC] at HR |-
 clear hD hC
 cases C with
 | false =>
   go_enter Tryz.func65, Tryz.ntmps65
   go_wp2_with (first
    | (go_at_call 92; refine HR.out.mono ?_; rintro e w2 ⟨rfl, hb2⟩)
    | fail)
   go_ret
   exact ⟨rfl, hb2⟩
 | true =>
   go_enter Tryz.func65, Tryz.ntmps65
   go_wp2_with (first
    | (go_at_call 92; refine HR.out.mono ?_; rintro e w2 ⟨rfl, hb2⟩)
    | (go_at_call 94; refine (HC.out _ hb2).mono ?_; rintro e w3 ⟨rfl, hb3⟩)
    | fail)
   go_ret
   exact ⟨rfl, hb2.trans (hb3.mono hb2.size)⟩
end Go.Proofs.YtmekamgohonffaaGreat
