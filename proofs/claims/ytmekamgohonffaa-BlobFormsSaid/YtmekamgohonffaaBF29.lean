/- MachPut MachPut2 -/
import Derived.Test.YtmekamgohonffaaBF17
import Derived.Test.YtmekamgohonffaaBF18
import Derived.Test.YtmekamgohonffaaBF26
import Derived.Test.YtmekamgohonffaaBF27
import Derived.Deep.RegionHeld3
import Derived.Deep.RegionLaw
namespace Go.Proofs.Ytmekamgohonffaa
open Go.RowKit
set_option linter.unusedVariables false
/-- blocks of other types than bytes stay as they are -/
structure OnlyB (w w' : World) : Prop where
  size : w.heap.size ≤ w'.heap.size
  blk : ∀ {g : Nat} {t : TypeId} {cs : Array Value}, 5 ≠ t → Blk w g t cs → Blk w' g t cs
section
variable {W w w' w'' : World} {A : Option Addr} {n c : Nat} {l : List Nat}
theorem OnlyB.trans (h : OnlyB w w') (h' : OnlyB w' w'') : OnlyB w w'' := ⟨Nat.le_trans h.size h'.size, fun hn hb => h'.blk hn (h.blk hn hb)⟩
theorem OnlyB.of_below (h : Below w.heap.size w w') : OnlyB w w' := ⟨h.size, fun _ hb => hb.below h⟩
theorem OnlyB.grown {base : Nat} {xs : List Value} (h : w.ownsRow base 5 1 (.slice A n c) n xs) (hg : w.grownBy w' (Value.slice A n c).ownBlock) : OnlyB w w' :=
  ⟨hg.size, fun hn hb => hb.apart_own h (Ne.symm hn) hg⟩
theorem RdT.onlyB {e : TypeId} {vs : List Value} (h : RdT w e A n vs) (hb : OnlyB w w') (hne : 5 ≠ e) : RdT w' e A n vs :=
  ⟨h.1, fun hn => by obtain ⟨g, o, cur, e1, hk, hc⟩ := h.2 hn; exact ⟨g, o, cur, e1, hb.blk hne hk, hc⟩⟩
end
/-- l, in a row of W's own that may have been there -/
def GotPut (W w : World) (l : List Nat) (e : Ending) (w' : World) : Prop := ∃ A c, e = .returned (.slice A l.length c) ∧ OwnB W w' A l.length c l ∧ Below W.heap.size W w' ∧ OnlyB w w'
theorem GotPut.is {W w w' : World} {l l' : List Nat} {e : Ending} (h : GotPut W w l e w') (he : l = l') : GotPut W w l' e w' := he ▸ h
set_option maxRecDepth 100000 in
theorem putNum_any {W w : World} {A : Option Addr} {n c : Nat} {l : List Nat} (z : Int) (hl : l.length ≤ 1000000) (ho : OwnB W w A n c l) (hB : Below W.heap.size W w) :
    Calls Try.prog 28 #[.slice A n c, .int .i64 z] w (GotPut W w (l ++ Pk.enc (Pk.held z))) := by
  obtain rfl := own_len ho
  have HO := Lib.hid ho
  have HB := Lib.hid hB
  have HX : Hid (∀ w, Below W.heap.size W w → Calls Try.prog 8 #[.slice none 0 0, .int .i64 z] w fun e w' => ∃ A n c, e = .returned (.slice A n c) ∧ OwnB W w' A n c (Pk.enc (Pk.held z)) ∧ Below W.heap.size W w' ∧ Below w.heap.size w w') :=
    Lib.hid (fun w hb => put_in (W := W) (l := []) (B := 0) (n := 0) (by unfold Lim; omega) (Rd.none_ _ _ _) hb rfl)
  obtain ⟨x, hx⟩ : ∃ x, Pk.enc (Pk.held z) = x := ⟨_, rfl⟩
  have hxl : x.length ≤ 9 := by rw [← hx]; exact (Pk.enc_length _).2
  rw [hx] at HX ⊢
  clear ho hB hx
  go_enter Try.func28, Try.ntmps28
  go_wp2_with (first
    | (go_at_call 8; refine (HX.out _ HB.out).mono ?_; rintro e w1 ⟨A1, n1, c1, rfl, ho1, hB1, hb1⟩; obtain rfl := own_len ho1)
    | (at_builtin
       refine wpList_append_cells (W := W) cellB (.tmp 5) (.tmp 7) rfl (by rfl) rfl (own_below HO.out hb1) rfl (Rd.own_ ho1) (bv_one _) (by omega) (by omega) hB1 ?_
       intro A3 c3 w3 hown3 hB3 hg3)
    | fail)
  go_ret
  rw [← bv_app] at hown3
  refine ⟨A3, c3, by rw [List.length_append]; rfl, by rw [List.length_append]; exact hown3, hB3, (OnlyB.of_below hb1).trans (OnlyB.grown (own_below HO.out hb1) hg3)⟩
set_option maxRecDepth 100000 in
theorem putBytes_any {W w : World} {A A' : Option Addr} {n c n' c' : Nat} {l x : List Nat} (hl : l.length ≤ 1000000) (hx : x.length ≤ 100000) (ho : OwnB W w A n c l) (hr : Rd W W.heap.size A' n' (bv x)) (hB : Below W.heap.size W w) :
    Calls Try.prog 25 #[.slice A n c, .slice A' n' c'] w (GotPut W w (l ++ Pk.encB x)) := by
  obtain rfl := own_len ho
  obtain rfl := hr.length
  have HO := Lib.hid ho
  have HB := Lib.hid hB
  have HX : Hid (∀ w, Below W.heap.size W w → Calls Try.prog 9 #[.slice none 0 0, .slice A' x.length c'] w fun e w' => ∃ A n c, e = .returned (.slice A n c) ∧ OwnB W w' A n c (Pk.encB x) ∧ Below W.heap.size W w' ∧ Below w.heap.size w w') :=
    Lib.hid (fun w hb => putb_in (W := W) (l := []) (B := 0) (n := 0) (B' := W.heap.size) (Rd.none_ _ _ _) (hr.below hb) (by unfold Lim; simp; omega) hb rfl)
  have hxl := encB_length x
  obtain ⟨y, hy⟩ : ∃ y, Pk.encB x = y := ⟨_, rfl⟩
  rw [hy] at HX hxl ⊢
  clear ho hB hy hr
  go_enter Try.func25, Try.ntmps25
  go_wp2_with (first
    | (go_at_call 9; refine (HX.out _ HB.out).mono ?_; rintro e w1 ⟨A1, n1, c1, rfl, ho1, hB1, hb1⟩; obtain rfl := own_len ho1)
    | (at_builtin
       refine wpList_append_cells (W := W) cellB (.tmp 5) (.tmp 7) rfl (by rfl) rfl (own_below HO.out hb1) rfl (Rd.own_ ho1) (bv_one _) (by omega) (by omega) hB1 ?_
       intro A3 c3 w3 hown3 hB3 hg3)
    | fail)
  go_ret
  rw [← bv_app] at hown3
  refine ⟨A3, c3, by rw [List.length_append]; rfl, by rw [List.length_append]; exact hown3, hB3, (OnlyB.of_below hb1).trans (OnlyB.grown (own_below HO.out hb1) hg3)⟩
set_option maxHeartbeats 2000000 in
set_option maxRecDepth 100000 in
theorem putPair_any {W w : World} {A A1 A2 : Option Addr} {n c c1 c2 : Nat} {l : List Nat} {p : Pr} (hl : l.length ≤ 100000) (hp1 : p.1.length ≤ 100000) (hp2 : p.2.length ≤ 100000) (ho : OwnB W w A n c l) (h1 : Rd W W.heap.size A1 p.1.length (bv p.1)) (h2 : Rd W W.heap.size A2 p.2.length (bv p.2)) (hB : Below W.heap.size W w) :
    Calls Try.prog 30 #[.slice A n c, .agg #[.slice A1 p.1.length c1, .slice A2 p.2.length c2]] w (GotPut W w (l ++ Pk.encB p.1 ++ Pk.encB p.2)) := by
  obtain rfl := own_len ho
  obtain ⟨wz, hwz⟩ : ∃ wz, w.alloc (.cells #[.slice A1 p.1.length c1, .slice A2 p.2.length c2] 68) = wz := ⟨_, rfl⟩
  have hbz : Below w.heap.size w wz := by rw [← hwz]; exact (Below.refl _ _).alloc (Nat.le_refl _) _
  have hkz : Blk wz w.heap.size 68 #[.slice A1 p.1.length c1, .slice A2 p.2.length c2] := by rw [← hwz]; exact Blk.new _ _ _
  obtain ⟨g, hg⟩ : ∃ g, w.heap.size = g := ⟨_, rfl⟩
  rw [hg] at hkz
  have HZ := Lib.hid hbz
  have HO := Lib.hid (own_below ho hbz)
  have HB := Lib.hid (hB.trans (hbz.mono hB.size))
  have HR1 := Lib.hid h1
  have HR2 := Lib.hid h2
  have HP1 := Lib.hid hp1
  have HP2 := Lib.hid hp2
  have HW := Lib.hid hwz
  have HG := Lib.hid hg
  have HK := Lib.hid hkz
  obtain ⟨l1, e1⟩ : ∃ x, l ++ Pk.encB p.1 = x := ⟨_, rfl⟩
  have hl1 : l1.length ≤ 1000000 := by rw [← e1, List.length_append]; have := encB_length p.1; omega
  obtain ⟨l2, e2⟩ : ∃ x, l1 ++ Pk.encB p.2 = x := ⟨_, rfl⟩
  rw [e1, e2]
  have HE1 := Lib.hid e1
  have HE2 := Lib.hid e2
  have HL := Lib.hid (And.intro hl hl1)
  clear ho hbz hB h1 h2 hp1 hp2 hwz hg hkz e1 e2 hl hl1
  go_enter Try.func30, Try.ntmps30
  go_upto_region 1 with fail
  rw [HG.out, HW.out]
  refine wp_region_held_drew (S := fun w' => Blk w' g 68 #[.slice A1 p.1.length c1, .slice A2 p.2.length c2]) (by kernel_rfl) HK.out (fun _ => ?_)
  have HD : Hid (Below wz.heap.size wz wz.drew) := Lib.hid (Below.refl _ _).drew
  generalize wz.drew = wd at HD ⊢
  have HK := Lib.hid (HK.out.below HD.out)
  refine wpAnyH_take (i := 0) (v := .slice A l.length c) rfl (by kernel_rfl) (by kernel_rfl) (by kernel_rfl) (fun _ _ _ h => h) (Or.inl ⟨by kernel_rfl, fun w _ => by go_simp⟩) HK.out ?_
  refine wpAnyH_take (i := 1) (v := .pointer (some ⟨g, 0, none⟩)) rfl (by kernel_rfl) (by kernel_rfl) (by kernel_rfl) (fun _ _ _ h => h) (Or.inl ⟨by kernel_rfl, fun w _ => by go_simp⟩) HK.out ?_
  refine wpAnyH_take (i := 4) (v := .pointer (some ⟨g, 1, none⟩)) rfl (by kernel_rfl) (by kernel_rfl) (by kernel_rfl) (fun _ _ _ h => h) (Or.inl ⟨by kernel_rfl, fun w _ => by go_simp⟩) HK.out ?_
  refine wpAnyH_take (i := 2) (v := .slice A1 p.1.length c1) rfl (by kernel_rfl) (by kernel_rfl) (by kernel_rfl) (fun _ _ _ h => h) (Or.inl ⟨by kernel_rfl, fun w h => by have q := h.cell 0; go_simp⟩) HK.out ?_
  refine wpAnyH_take (i := 5) (v := .slice A2 p.2.length c2) rfl (by kernel_rfl) (by kernel_rfl) (by kernel_rfl) (fun _ _ _ h => h) (Or.inl ⟨by kernel_rfl, fun w h => by have q := h.cell 1; go_simp⟩) HK.out ?_
  refine wpAnyH_ready (rs := [3]) (by kernel_rfl) (by simp) ?_
  refine AllReadyH.cons rfl (fun K hK => ?_) AllReadyH.nil
  go_simp
  refine (putBytes_any (W := W) (c' := c1) (Nat.le_trans HL.out.1 (by omega)) HP1.out (own_below HO.out HD.out) HR1.out (HB.out.trans (HD.out.mono HB.out.size))).mono ?_
  rintro en w1 ⟨A3, c3, rfl, ho3, hB3, hb3⟩
  rw [HE1.out] at ho3 ⊢
  have HK3 := Lib.hid (hb3.blk (by decide) HK.out)
  go_simp
  refine hK.out _ _ HK3.out (fun _ => ?_)
  clear hK K
  refine wpAnyH_ready (rs := [6]) (by kernel_rfl) (by simp) ?_
  refine AllReadyH.cons rfl (fun K hK => ?_) AllReadyH.nil
  go_simp
  refine (putBytes_any (W := W) (c' := c2) HL.out.2 HP2.out ho3 HR2.out hB3).mono ?_
  rintro en w2 ⟨A4, c4, rfl, ho4, hB4, hb4⟩
  rw [HE2.out] at ho4 ⊢
  have HK4 := Lib.hid (hb4.blk (by decide) HK3.out)
  go_simp
  refine hK.out _ _ HK4.out (fun _ => ?_)
  clear hK K
  refine wpAnyH_take (i := 7) (v := .slice A4 l2.length c4) rfl (by kernel_rfl) (by kernel_rfl) (by kernel_rfl) (fun _ _ _ h => h) (Or.inl ⟨by kernel_rfl, fun w _ => by go_simp⟩) HK4.out ?_
  refine wpAnyH_done (by kernel_rfl) ?_ _
  go_wp2_with fail
  go_ret
  exact ⟨A4, c4, rfl, ho4, hB4, (((OnlyB.of_below HZ.out).trans (OnlyB.of_below HD.out)).trans hb3).trans hb4⟩
set_option maxHeartbeats 2000000 in
set_option maxRecDepth 100000 in
theorem putLast_any {W w : World} {A A1 : Option Addr} {n c c1 : Nat} {l : List Nat} {m : Ls} (hl : l.length ≤ 100000) (hv : m.v.length ≤ 100000) (hm : -1 ≤ m.n ∧ m.n ≤ 1073741824) (ho : OwnB W w A n c l) (h1 : Rd W W.heap.size A1 m.v.length (bv m.v)) (hB : Below W.heap.size W w) :
    Calls Try.prog 32 #[.slice A n c, .agg #[.int .i64 m.s, .int .i64 m.q, .int .i64 m.e, .slice A1 m.v.length c1, .int .i64 m.n]] w (GotPut W w (l ++ encL1 m)) := by
  obtain rfl := own_len ho
  obtain ⟨wz, hwz⟩ : ∃ wz, w.alloc (.cells #[.int .i64 m.s, .int .i64 m.q, .int .i64 m.e, .slice A1 m.v.length c1, .int .i64 m.n] 75) = wz := ⟨_, rfl⟩
  have hbz : Below w.heap.size w wz := by rw [← hwz]; exact (Below.refl _ _).alloc (Nat.le_refl _) _
  have hkz : Blk wz w.heap.size 75 #[.int .i64 m.s, .int .i64 m.q, .int .i64 m.e, .slice A1 m.v.length c1, .int .i64 m.n] := by rw [← hwz]; exact Blk.new _ _ _
  obtain ⟨g, hg⟩ : ∃ g, w.heap.size = g := ⟨_, rfl⟩
  rw [hg] at hkz
  have HZ := Lib.hid hbz
  have HO := Lib.hid (own_below ho hbz)
  have HB := Lib.hid (hB.trans (hbz.mono hB.size))
  have HR1 := Lib.hid h1
  have HV := Lib.hid hv
  have HW := Lib.hid hwz
  have HG := Lib.hid hg
  have HK := Lib.hid hkz
  obtain ⟨s, es⟩ : ∃ x, m.s = x := ⟨_, rfl⟩
  obtain ⟨q, eq⟩ : ∃ x, m.q = x := ⟨_, rfl⟩
  obtain ⟨e, ee⟩ : ∃ x, m.e = x := ⟨_, rfl⟩
  obtain ⟨v, ev⟩ : ∃ x, m.v = x := ⟨_, rfl⟩
  obtain ⟨N, eN⟩ : ∃ x, m.n = x := ⟨_, rfl⟩
  have hEL : encL1 m = Pk.enc (Pk.held s) ++ (Pk.enc (Pk.held q) ++ (Pk.enc (Pk.held e) ++ (Pk.enc (Pk.held (N + 1)) ++ Pk.encB v))) := by unfold encL1; rw [es, eq, ee, ev, eN]
  rw [hEL]
  rw [es, eq, ee, ev, eN] at HK HW
  rw [ev] at HR1 HV
  rw [eN] at hm
  rw [es, eq, ee, ev, eN]
  clear es eq ee ev eN hEL
  have k1 := (Pk.enc_length (Pk.held s)).2
  have k2 := (Pk.enc_length (Pk.held q)).2
  have k3 := (Pk.enc_length (Pk.held e)).2
  have k4 := (Pk.enc_length (Pk.held (N + 1))).2
  obtain ⟨l1, e1⟩ : ∃ x, l ++ Pk.enc (Pk.held s) = x := ⟨_, rfl⟩
  obtain ⟨l2, e2⟩ : ∃ x, l1 ++ Pk.enc (Pk.held q) = x := ⟨_, rfl⟩
  obtain ⟨l3, e3⟩ : ∃ x, l2 ++ Pk.enc (Pk.held e) = x := ⟨_, rfl⟩
  obtain ⟨l4, e4⟩ : ∃ x, l3 ++ Pk.enc (Pk.held (N + 1)) = x := ⟨_, rfl⟩
  obtain ⟨l5, e5⟩ : ∃ x, l4 ++ Pk.encB v = x := ⟨_, rfl⟩
  have hL : l.length ≤ 1000000 ∧ l1.length ≤ 1000000 ∧ l2.length ≤ 1000000 ∧ l3.length ≤ 1000000 ∧ l4.length ≤ 1000000 := by
    rw [← e4, ← e3, ← e2, ← e1]; simp only [List.length_append]; omega
  have hEND : l ++ (Pk.enc (Pk.held s) ++ (Pk.enc (Pk.held q) ++ (Pk.enc (Pk.held e) ++ (Pk.enc (Pk.held (N + 1)) ++ Pk.encB v)))) = l5 := by
    rw [← e5, ← e4, ← e3, ← e2, ← e1]; simp only [List.append_assoc]
  rw [hEND]
  have HL := Lib.hid hL
  have HE1 := Lib.hid e1
  have HE2 := Lib.hid e2
  have HE3 := Lib.hid e3
  have HE4 := Lib.hid e4
  have HE5 := Lib.hid e5
  have HMIN : Hid (N ≤ 1073741824) := Lib.hid hm.2
  have HWR : Hid (IntKind.i64.wrap (N + 1) = N + 1) := Lib.hid (IntWalk.i64_in _ (by omega))
  clear hm
  clear ho hbz hB h1 hv hwz hg hkz e1 e2 e3 e4 e5 hl hL hEND k1 k2 k3 k4
  go_enter Try.func32, Try.ntmps32
  go_upto_region 1 with fail
  rw [HG.out, HW.out]
  refine wp_region_held_drew (S := fun w' => Blk w' g 75 #[.int .i64 s, .int .i64 q, .int .i64 e, .slice A1 v.length c1, .int .i64 N]) (by kernel_rfl) HK.out (fun _ => ?_)
  have HD : Hid (Below wz.heap.size wz wz.drew) := Lib.hid (Below.refl _ _).drew
  generalize wz.drew = wd at HD ⊢
  have HK := Lib.hid (HK.out.below HD.out)
  refine wpAnyH_take (i := 0) (v := .slice A l.length c) rfl (by kernel_rfl) (by kernel_rfl) (by kernel_rfl) (fun _ _ _ h => h) (Or.inl ⟨by kernel_rfl, fun w _ => by go_simp⟩) HK.out ?_
  refine wpAnyH_take (i := 1) (v := .pointer (some ⟨g, 0, none⟩)) rfl (by kernel_rfl) (by kernel_rfl) (by kernel_rfl) (fun _ _ _ h => h) (Or.inl ⟨by kernel_rfl, fun w _ => by go_simp⟩) HK.out ?_
  refine wpAnyH_take (i := 4) (v := .pointer (some ⟨g, 1, none⟩)) rfl (by kernel_rfl) (by kernel_rfl) (by kernel_rfl) (fun _ _ _ h => h) (Or.inl ⟨by kernel_rfl, fun w _ => by go_simp⟩) HK.out ?_
  refine wpAnyH_take (i := 2) (v := .int .i64 s) rfl (by kernel_rfl) (by kernel_rfl) (by kernel_rfl) (fun _ _ _ h => h) (Or.inl ⟨by kernel_rfl, fun w h => by have q := h.cell 0; go_simp⟩) HK.out ?_
  refine wpAnyH_take (i := 5) (v := .int .i64 q) rfl (by kernel_rfl) (by kernel_rfl) (by kernel_rfl) (fun _ _ _ h => h) (Or.inl ⟨by kernel_rfl, fun w h => by have q := h.cell 1; go_simp⟩) HK.out ?_
  refine wpAnyH_ready (rs := [3]) (by kernel_rfl) (by simp) ?_
  refine AllReadyH.cons rfl (fun K hK => ?_) AllReadyH.nil
  go_simp
  refine (putNum_any (W := W) s HL.out.1 (own_below HO.out HD.out) (HB.out.trans (HD.out.mono HB.out.size))).mono ?_
  rintro en w1 ⟨A3, c3, rfl, ho3, hB3, hb3⟩
  rw [HE1.out] at ho3 ⊢
  have HK3 := Lib.hid (hb3.blk (by decide) HK.out)
  go_simp
  refine hK.out _ _ HK3.out (fun _ => ?_)
  clear hK K
  refine wpAnyH_ready (rs := [6]) (by kernel_rfl) (by simp) ?_
  refine AllReadyH.cons rfl (fun K hK => ?_) AllReadyH.nil
  go_simp
  refine (putNum_any (W := W) q HL.out.2.1 ho3 hB3).mono ?_
  rintro en w2 ⟨A4, c4, rfl, ho4, hB4, hb4⟩
  rw [HE2.out] at ho4 ⊢
  have HK4 := Lib.hid (hb4.blk (by decide) HK3.out)
  go_simp
  refine hK.out _ _ HK4.out (fun _ => ?_)
  clear hK K
  refine wpAnyH_take (i := 7) (v := .slice A4 l2.length c4) rfl (by kernel_rfl) (by kernel_rfl) (by kernel_rfl) (fun _ _ _ h => h) (Or.inl ⟨by kernel_rfl, fun w _ => by go_simp⟩) HK4.out ?_
  refine wpAnyH_done (by kernel_rfl) ?_ _
  obtain ⟨x0, x1, x2, x3, x4⟩ := five HK4.out
  go_upto_region 3 with (first
    | (go_at_call 28; refine (putNum_any (W := W) e HL.out.2.2.1 ho4 hB4).mono ?_; rintro en w5 ⟨A5, c5, rfl, ho5, hB5, hb5⟩; rw [HE3.out] at ho5 ⊢; have HK5 := Lib.hid (hb5.blk (by decide) HK4.out); obtain ⟨y0, y1, y2, y3, y4⟩ := five HK5.out)
    | fail)
  have hmin : ∀ (ts : Array TypeId) (t : TypeId) (w : World), (Builtin.min_ ts t #[.int .i64 N, .int .i64 9223372036854775806]).run Try.prog w = .ok (.int .i64 N) w := fun ts t w => by
    rw [run_min_int2, if_neg (by have := HMIN.out; omega)]
  have hwr := HWR.out
  clear HMIN HWR x0 x1 x2 x3 x4
  go_wp2_with (first
    | (go_at_call 28; refine (putNum_any (W := W) (N + 1) HL.out.2.2.2.1 ho5 hB5).mono ?_; rintro en w6 ⟨A6, c6, rfl, ho6, hB6, hb6⟩; rw [HE4.out] at ho6 ⊢; have HK6 := Lib.hid (hb6.blk (by decide) HK5.out); obtain ⟨z0, z1, z2, z3, z4⟩ := five HK6.out)
    | (go_at_call 25; refine (putBytes_any (W := W) (c' := c1) HL.out.2.2.2.2 HV.out ho6 HR1.out hB6).mono ?_; rintro en w7 ⟨A7, c7, rfl, ho7, hB7, hb7⟩; rw [HE5.out] at ho7 ⊢)
    | fail)
  go_ret
  exact ⟨A7, c7, rfl, ho7, hB7, ((((((OnlyB.of_below HZ.out).trans (OnlyB.of_below HD.out)).trans hb3).trans hb4).trans hb5).trans hb6).trans hb7⟩
end Go.Proofs.Ytmekamgohonffaa

namespace Go.Proofs.Ytmekamgohonffaa
open Go.RowKit
set_option linter.unusedVariables false
theorem take_snoc {α : Type} {l : List α} {k : Nat} {x : α} (h : l[k]? = some x) : l.take (k + 1) = l.take k ++ [x] := by rw [List.take_add_one, h]; rfl
theorem cell_of {W w : World} (hB : Below W.heap.size W w) {p : Addr} {v : Value} (h : W.cell? p = some v) : w.cell? p = some v := (hB.cell (World.block_lt_of_cell? _ _ h)).trans h
set_option maxHeartbeats 2000000 in
set_option maxRecDepth 100000 in
theorem putEachQ_any {W w : World} {A A' : Option Addr} {n c n' c' : Nat} {l : List Nat} {xs : List (List Nat)} (hl : l.length ≤ 10000) (hn : xs.length ≤ 100) (hx : ∀ x ∈ xs, x.length ≤ 16) (ho : OwnB W w A n c l) (hr : RdQ W W.heap.size A' n' xs) (hB : Below W.heap.size W w) :
    Calls Try.prog 26 #[.slice A n c, .slice A' n' c', .func (.func 25) #[] #[]] w (GotPut W w (l ++ (encN xs.length ++ encQ xs))) := by
  obtain rfl := own_len ho
  have hlen : xs.length = n' := hr.length
  subst hlen
  have HR := Lib.hid hr
  have HX := Lib.hid hx
  have HLEN : Hid (∀ k, k ≤ xs.length → (l ++ (encN xs.length ++ encQ (xs.take k))).length ≤ 20000) := Lib.hid (fun k hk => by
    have h1 := encN_length xs.length
    have h2 := encQ_length (qs := xs.take k) (fun y hy => hx y (List.mem_of_mem_take hy))
    have h3 : (xs.take k).length ≤ k := List.length_take_le _ _
    simp only [List.length_append]; omega)
  have HC := Lib.hid (putNum_any (W := W) (xs.length : Int) (by omega) ho hB)
  obtain ⟨l0, e0⟩ : ∃ x, l ++ Pk.enc (Pk.held (xs.length : Int)) = x := ⟨_, rfl⟩
  rw [e0] at HC
  have HE0 : Hid (∀ y, l ++ (encN xs.length ++ y) = l0 ++ y) := Lib.hid (fun y => by rw [← e0, ← List.append_assoc]; rfl)
  rw [HE0.out] 
  clear ho hB hr e0 hx 
  go_enter Try.func26, Try.ntmps26
  go_wp2_with (first
    | (go_at_call 28; refine HC.out.mono ?_; rintro e w1 ⟨A1, c1, rfl, ho1, hB1, hb1⟩)
    | fail)
  have HO1 := Lib.hid ho1
  have HB1 := Lib.hid hB1
  have HU1 := Lib.hid hb1
  clear ho1 hB1 hb1 HC
  go_loopw [0, 8, 15] (fun s0 s8 s15 wr => ∃ (k : Nat) (A2 : Option Addr) (c2 : Nat) (L : List Nat), k ≤ xs.length ∧ s15 = .int .i64 (k : Int) ∧ s0 = .slice A2 L.length c2 ∧ Hid (L = l0 ++ encQ (xs.take k)) ∧ Hid (OwnB W wr A2 L.length c2 L) ∧ Hid (Below W.heap.size W wr) ∧ Hid (OnlyB w wr)) (fun _ _ s15 _ => xs.length - (intOf s15).toNat)
  case atStart => exact ⟨0, A1, c1, l0, Nat.zero_le _, rfl, rfl, Lib.hid (by simp [encQ]), HO1, HB1, HU1⟩
  case round =>
    obtain ⟨k, A2, c2, L, hk, rfl, rfl, HL, HO, HB, HU⟩ := hrel
    by_cases hlt : k < xs.length
    · obtain ⟨b, o, x, A3, c3, rfl, hxk, hc0, hrd⟩ := HR.out.at hlt
      have y0 := cell_of HB.out hc0
      have hLL : L.length ≤ 1000000 := by have := HLEN.out k hk; rw [HE0.out, ← HL.out] at this; omega
      have hLS : L.length ≤ 20000 := by have := HLEN.out k hk; rwa [HE0.out, ← HL.out] at this
      have HP := Lib.hid hxk
      have HC := Lib.hid (putBytes_any (W := W) (c' := c3) hLL (Nat.le_trans (HX.out x (List.mem_of_getElem? hxk)) (by omega)) HO.out hrd HB.out)
      obtain ⟨L', eL⟩ : ∃ y, L ++ Pk.encB x = y := ⟨_, rfl⟩
      rw [eL] at HC
      have HEL := Lib.hid eL
      clear eL hxk 
      go_wp2_with (first
        | (go_at_call 25; refine HC.out.mono ?_; rintro e w4 ⟨A5, c5, rfl, ho5, hB5, hb5⟩)
        | fail)
      go_roundw
      case rel =>
        refine ⟨k + 1, A5, c5, L', by omega, by go_num, rfl, Lib.hid ?_, Lib.hid ho5, Lib.hid hB5, Lib.hid (HU.out.trans hb5)⟩
        rw [← HEL.out, HL.out, take_snoc HP.out, encQ_snoc]
        simp only [List.append_assoc]
      case measure => simp only [intOf]; omega
    · obtain rfl : k = xs.length := by omega
      go_wp2_with fail
      go_ret
      exact GotPut.is (l := L) ⟨A2, c2, rfl, HO.out, HB.out, HU.out⟩ (by rw [HL.out, List.take_of_length_le (Nat.le_refl _)])
set_option maxHeartbeats 2000000 in
set_option maxRecDepth 100000 in
theorem putEachI_any {W w : World} {A A' : Option Addr} {n c n' c' : Nat} {l : List Nat} {xs : List Int} (hl : l.length ≤ 10000) (hn : xs.length ≤ 100)  (ho : OwnB W w A n c l) (hr : Rd W W.heap.size A' n' (iv xs)) (hB : Below W.heap.size W w) :
    Calls Try.prog 27 #[.slice A n c, .slice A' n' c', .func (.func 28) #[] #[]] w (GotPut W w (l ++ (encN xs.length ++ Pk.encs xs))) := by
  obtain rfl := own_len ho
  have hlen : xs.length = n' := by have := hr.1; rwa [iv_length] at this
  subst hlen
  have HR := Lib.hid hr
  have HLEN : Hid (∀ k, k ≤ xs.length → (l ++ (encN xs.length ++ Pk.encs (xs.take k))).length ≤ 20000) := Lib.hid (fun k hk => by
    have h1 := encN_length xs.length
    have h2 := Pk.encs_length (xs.take k)
    have h3 : (xs.take k).length ≤ k := List.length_take_le _ _
    simp only [List.length_append]; omega)
  have HC := Lib.hid (putNum_any (W := W) (xs.length : Int) (by omega) ho hB)
  obtain ⟨l0, e0⟩ : ∃ x, l ++ Pk.enc (Pk.held (xs.length : Int)) = x := ⟨_, rfl⟩
  rw [e0] at HC
  have HE0 : Hid (∀ y, l ++ (encN xs.length ++ y) = l0 ++ y) := Lib.hid (fun y => by rw [← e0, ← List.append_assoc]; rfl)
  rw [HE0.out] 
  clear ho hB hr e0 
  go_enter Try.func27, Try.ntmps27
  go_wp2_with (first
    | (go_at_call 28; refine HC.out.mono ?_; rintro e w1 ⟨A1, c1, rfl, ho1, hB1, hb1⟩)
    | fail)
  have HO1 := Lib.hid ho1
  have HB1 := Lib.hid hB1
  have HU1 := Lib.hid hb1
  clear ho1 hB1 hb1 HC
  go_loopw [0, 8, 15] (fun s0 s8 s15 wr => ∃ (k : Nat) (A2 : Option Addr) (c2 : Nat) (L : List Nat), k ≤ xs.length ∧ s15 = .int .i64 (k : Int) ∧ s0 = .slice A2 L.length c2 ∧ Hid (L = l0 ++ Pk.encs (xs.take k)) ∧ Hid (OwnB W wr A2 L.length c2 L) ∧ Hid (Below W.heap.size W wr) ∧ Hid (OnlyB w wr)) (fun _ _ s15 _ => xs.length - (intOf s15).toNat)
  case atStart => exact ⟨0, A1, c1, l0, Nat.zero_le _, rfl, rfl, Lib.hid (by simp [Pk.encs]), HO1, HB1, HU1⟩
  case round =>
    obtain ⟨k, A2, c2, L, hk, rfl, rfl, HL, HO, HB, HU⟩ := hrel
    by_cases hlt : k < xs.length
    · obtain ⟨x, hxk⟩ : ∃ x, xs[k]? = some x := ⟨_, List.getElem?_eq_getElem hlt⟩
      obtain ⟨b, o, rfl, _⟩ := HR.out.int_at hlt
      have hc0 := HR.out.int_cell hlt hxk
      have y0 := cell_of HB.out hc0
      have hLL : L.length ≤ 1000000 := by have := HLEN.out k hk; rw [HE0.out, ← HL.out] at this; omega
      have hLS : L.length ≤ 20000 := by have := HLEN.out k hk; rwa [HE0.out, ← HL.out] at this
      have HP := Lib.hid hxk
      have HC := Lib.hid (putNum_any (W := W) x hLL HO.out HB.out)
      obtain ⟨L', eL⟩ : ∃ y, L ++ Pk.enc (Pk.held x) = y := ⟨_, rfl⟩
      rw [eL] at HC
      have HEL := Lib.hid eL
      clear eL hxk 
      go_wp2_with (first
        | (go_at_call 28; refine HC.out.mono ?_; rintro e w4 ⟨A5, c5, rfl, ho5, hB5, hb5⟩)
        | fail)
      go_roundw
      case rel =>
        refine ⟨k + 1, A5, c5, L', by omega, by go_num, rfl, Lib.hid ?_, Lib.hid ho5, Lib.hid hB5, Lib.hid (HU.out.trans hb5)⟩
        rw [← HEL.out, HL.out, take_snoc HP.out, Pk.encs_snoc]
        simp only [List.append_assoc]
      case measure => simp only [intOf]; omega
    · obtain rfl : k = xs.length := by omega
      go_wp2_with fail
      go_ret
      exact GotPut.is (l := L) ⟨A2, c2, rfl, HO.out, HB.out, HU.out⟩ (by rw [HL.out, List.take_of_length_le (Nat.le_refl _)])
set_option maxHeartbeats 2000000 in
set_option maxRecDepth 100000 in
theorem putEachP_any {W w : World} {A A' : Option Addr} {n c n' c' : Nat} {l : List Nat} {xs : List Pr} (hl : l.length ≤ 10000) (hn : xs.length ≤ 100) (hx : ∀ p ∈ xs, p.1.length ≤ 8 ∧ p.2.length ≤ 16) (ho : OwnB W w A n c l) (hr : RdP W W.heap.size A' n' xs) (hB : Below W.heap.size W w) :
    Calls Try.prog 29 #[.slice A n c, .slice A' n' c', .func (.func 30) #[] #[]] w (GotPut W w (l ++ (encN xs.length ++ encP xs))) := by
  obtain rfl := own_len ho
  have hlen : xs.length = n' := hr.length
  subst hlen
  have HR := Lib.hid hr
  have HX := Lib.hid hx
  have HLEN : Hid (∀ k, k ≤ xs.length → (l ++ (encN xs.length ++ encP (xs.take k))).length ≤ 20000) := Lib.hid (fun k hk => by
    have h1 := encN_length xs.length
    have h2 := encP_length (ps := xs.take k) (fun y hy => hx y (List.mem_of_mem_take hy))
    have h3 : (xs.take k).length ≤ k := List.length_take_le _ _
    simp only [List.length_append]; omega)
  have HC := Lib.hid (putNum_any (W := W) (xs.length : Int) (by omega) ho hB)
  obtain ⟨l0, e0⟩ : ∃ x, l ++ Pk.enc (Pk.held (xs.length : Int)) = x := ⟨_, rfl⟩
  rw [e0] at HC
  have HE0 : Hid (∀ y, l ++ (encN xs.length ++ y) = l0 ++ y) := Lib.hid (fun y => by rw [← e0, ← List.append_assoc]; rfl)
  rw [HE0.out] 
  clear ho hB hr e0 hx 
  go_enter Try.func29, Try.ntmps29
  go_wp2_with (first
    | (go_at_call 28; refine HC.out.mono ?_; rintro e w1 ⟨A1, c1, rfl, ho1, hB1, hb1⟩)
    | fail)
  have HO1 := Lib.hid ho1
  have HB1 := Lib.hid hB1
  have HU1 := Lib.hid hb1
  clear ho1 hB1 hb1 HC
  go_loopw [0, 8, 15] (fun s0 s8 s15 wr => ∃ (k : Nat) (A2 : Option Addr) (c2 : Nat) (L : List Nat), k ≤ xs.length ∧ s15 = .int .i64 (k : Int) ∧ s0 = .slice A2 L.length c2 ∧ Hid (L = l0 ++ encP (xs.take k)) ∧ Hid (OwnB W wr A2 L.length c2 L) ∧ Hid (Below W.heap.size W wr) ∧ Hid (OnlyB w wr)) (fun _ _ s15 _ => xs.length - (intOf s15).toNat)
  case atStart => exact ⟨0, A1, c1, l0, Nat.zero_le _, rfl, rfl, Lib.hid (by simp [encP]), HO1, HB1, HU1⟩
  case round =>
    obtain ⟨k, A2, c2, L, hk, rfl, rfl, HL, HO, HB, HU⟩ := hrel
    by_cases hlt : k < xs.length
    · obtain ⟨b, o, x, A3, c3, A4, c4, rfl, hxk, hc0, hc1, hrd, hrd2⟩ := HR.out.at hlt
      have y0 := cell_of HB.out hc0
      have y1 := cell_of HB.out hc1
      have hLL : L.length ≤ 1000000 := by have := HLEN.out k hk; rw [HE0.out, ← HL.out] at this; omega
      have hLS : L.length ≤ 20000 := by have := HLEN.out k hk; rwa [HE0.out, ← HL.out] at this
      have b0 : Below wr.heap.size wr (wr.alloc (.cells #[.slice A3 x.1.length c3, .slice A4 x.2.length c4] 68)) := (Below.refl _ _).alloc (Nat.le_refl _) _
      have HB0 := Lib.hid b0
      have HP := Lib.hid hxk
      have HC := Lib.hid (putPair_any (W := W) (c1 := c3) (c2 := c4) (p := x) (by omega) (Nat.le_trans (HX.out x (List.mem_of_getElem? hxk)).1 (by omega)) (Nat.le_trans (HX.out x (List.mem_of_getElem? hxk)).2 (by omega)) (own_below HO.out b0) hrd hrd2 (HB.out.trans (b0.mono HB.out.size)))
      obtain ⟨L', eL⟩ : ∃ y, L ++ Pk.encB x.1 ++ Pk.encB x.2 = y := ⟨_, rfl⟩
      rw [eL] at HC
      have HEL := Lib.hid eL
      clear eL hxk b0
      go_wp2_with (first
        | (go_at_call 30; refine HC.out.mono ?_; rintro e w4 ⟨A5, c5, rfl, ho5, hB5, hb5⟩)
        | fail)
      go_roundw
      case rel =>
        refine ⟨k + 1, A5, c5, L', by omega, by go_num, rfl, Lib.hid ?_, Lib.hid ho5, Lib.hid hB5, Lib.hid (HU.out.trans ((OnlyB.of_below HB0.out).trans hb5))⟩
        rw [← HEL.out, HL.out, take_snoc HP.out, encP_snoc]
        simp only [List.append_assoc]
      case measure => simp only [intOf]; omega
    · obtain rfl : k = xs.length := by omega
      go_wp2_with fail
      go_ret
      exact GotPut.is (l := L) ⟨A2, c2, rfl, HO.out, HB.out, HU.out⟩ (by rw [HL.out, List.take_of_length_le (Nat.le_refl _)])
theorem encT_snoc1 (ls : List Ls) (l : Ls) : encT (ls ++ [l]) = encT ls ++ encL1 l := by simp [encT]
set_option maxHeartbeats 2000000 in
set_option maxRecDepth 100000 in
theorem putEachT_any {W w : World} {A A' : Option Addr} {n c n' c' : Nat} {l : List Nat} {xs : List Ls} (hl : l.length ≤ 10000) (hn : xs.length ≤ 100) (hx : ∀ m ∈ xs, m.v.length ≤ 16) (hm : ∀ m ∈ xs, -1 ≤ m.n ∧ m.n ≤ 1073741824) (ho : OwnB W w A n c l) (hr : RdL W W.heap.size A' n' xs) (hB : Below W.heap.size W w) :
    Calls Try.prog 31 #[.slice A n c, .slice A' n' c', .func (.func 32) #[] #[]] w (GotPut W w (l ++ (encN xs.length ++ encT xs))) := by
  obtain rfl := own_len ho
  have hlen : xs.length = n' := hr.length
  subst hlen
  have HR := Lib.hid hr
  have HX := Lib.hid hx
  have HM := Lib.hid hm
  have HLEN : Hid (∀ k, k ≤ xs.length → (l ++ (encN xs.length ++ encT (xs.take k))).length ≤ 20000) := Lib.hid (fun k hk => by
    have h1 := encN_length xs.length
    have h2 := encT_length (ls := xs.take k) (fun y hy => hx y (List.mem_of_mem_take hy))
    have h3 : (xs.take k).length ≤ k := List.length_take_le _ _
    simp only [List.length_append]; omega)
  have HC := Lib.hid (putNum_any (W := W) (xs.length : Int) (by omega) ho hB)
  obtain ⟨l0, e0⟩ : ∃ x, l ++ Pk.enc (Pk.held (xs.length : Int)) = x := ⟨_, rfl⟩
  rw [e0] at HC
  have HE0 : Hid (∀ y, l ++ (encN xs.length ++ y) = l0 ++ y) := Lib.hid (fun y => by rw [← e0, ← List.append_assoc]; rfl)
  rw [HE0.out] 
  clear ho hB hr e0 hx hm
  go_enter Try.func31, Try.ntmps31
  go_wp2_with (first
    | (go_at_call 28; refine HC.out.mono ?_; rintro e w1 ⟨A1, c1, rfl, ho1, hB1, hb1⟩)
    | fail)
  have HO1 := Lib.hid ho1
  have HB1 := Lib.hid hB1
  have HU1 := Lib.hid hb1
  clear ho1 hB1 hb1 HC
  go_loopw [0, 8, 15] (fun s0 s8 s15 wr => ∃ (k : Nat) (A2 : Option Addr) (c2 : Nat) (L : List Nat), k ≤ xs.length ∧ s15 = .int .i64 (k : Int) ∧ s0 = .slice A2 L.length c2 ∧ Hid (L = l0 ++ encT (xs.take k)) ∧ Hid (OwnB W wr A2 L.length c2 L) ∧ Hid (Below W.heap.size W wr) ∧ Hid (OnlyB w wr)) (fun _ _ s15 _ => xs.length - (intOf s15).toNat)
  case atStart => exact ⟨0, A1, c1, l0, Nat.zero_le _, rfl, rfl, Lib.hid (by simp [encT]), HO1, HB1, HU1⟩
  case round =>
    obtain ⟨k, A2, c2, L, hk, rfl, rfl, HL, HO, HB, HU⟩ := hrel
    by_cases hlt : k < xs.length
    · obtain ⟨b, o, x, A3, c3, rfl, hxk, hc0, hc1, hc2, hc3, hc4, hrd⟩ := HR.out.at hlt
      have y0 := cell_of HB.out hc0
      have y1 := cell_of HB.out hc1
      have y2 := cell_of HB.out hc2
      have y3 := cell_of HB.out hc3
      have y4 := cell_of HB.out hc4
      have hLL : L.length ≤ 1000000 := by have := HLEN.out k hk; rw [HE0.out, ← HL.out] at this; omega
      have hLS : L.length ≤ 20000 := by have := HLEN.out k hk; rwa [HE0.out, ← HL.out] at this
      have b0 : Below wr.heap.size wr (wr.alloc (.cells #[.int .i64 x.s, .int .i64 x.q, .int .i64 x.e, .slice A3 x.v.length c3, .int .i64 x.n] 75)) := (Below.refl _ _).alloc (Nat.le_refl _) _
      have HB0 := Lib.hid b0
      have HP := Lib.hid hxk
      have HC := Lib.hid (putLast_any (W := W) (c1 := c3) (m := x) (by omega) (Nat.le_trans (HX.out x (List.mem_of_getElem? hxk)) (by omega)) (HM.out x (List.mem_of_getElem? hxk)) (own_below HO.out b0) hrd (HB.out.trans (b0.mono HB.out.size)))
      obtain ⟨L', eL⟩ : ∃ y, L ++ encL1 x = y := ⟨_, rfl⟩
      rw [eL] at HC
      have HEL := Lib.hid eL
      clear eL hxk b0
      go_wp2_with (first
        | (go_at_call 32; refine HC.out.mono ?_; rintro e w4 ⟨A5, c5, rfl, ho5, hB5, hb5⟩)
        | fail)
      go_roundw
      case rel =>
        refine ⟨k + 1, A5, c5, L', by omega, by go_num, rfl, Lib.hid ?_, Lib.hid ho5, Lib.hid hB5, Lib.hid (HU.out.trans ((OnlyB.of_below HB0.out).trans hb5))⟩
        rw [← HEL.out, HL.out, take_snoc HP.out, encT_snoc1]
        simp only [List.append_assoc]
      case measure => simp only [intOf]; omega
    · obtain rfl : k = xs.length := by omega
      go_wp2_with fail
      go_ret
      exact GotPut.is (l := L) ⟨A2, c2, rfl, HO.out, HB.out, HU.out⟩ (by rw [HL.out, List.take_of_length_le (Nat.le_refl _)])
end Go.Proofs.Ytmekamgohonffaa

