/- DiskCode1 -/
import Derived.Test.YtlfkgpllleogoaaDP08
import Derived.Test.YtlfkgpllleogoaaDP14
import Derived.Test.YtlfkgpllleogoaaDP15
import Derived.Test.YtlfkgpllleogoaaDP18
import Derived.Test.YtlfkgpllleogoaaDP21
namespace Go.Proofs.Ytlfkgpllleogoaa
open Go.RowKit
set_option linter.unusedVariables false
theorem run_min_far {P : Program} (w : World) (ts : Array TypeId) (t : TypeId) (n : Int) :
    (Builtin.min_ ts t #[.int .i64 (max n 0), .int .i64 1099511627776]).run P w = .ok (.int .i64 (Dk.held n : Nat)) w := by
  have e : ((Dk.held n : Nat) : Int) = if (1099511627776 : Int) < max n 0 then 1099511627776 else max n 0 := by unfold Dk.held Dk.far; omega
  rw [e]
  simp [Builtin.min_, Builtin.min2]
theorem dheld (n : Int) (w : World) :
    Calls Try.prog 60 #[.int .i64 n] w fun e w' => e = .returned (.int .i64 (Dk.held n : Nat)) ∧ w = w' := by
  have h1 := fun (w : World) ts t => run_max0 (P := Try.prog) w ts t n
  have h2 := fun (w : World) ts t => run_min_far (P := Try.prog) w ts t n
  go_enter Try.func60, Try.ntmps60
  go_wp2
  go_ret
  exact ⟨rfl, rfl⟩
def Dk.Rc.zero : Dk.Rc := ⟨0, 0, 0, 0⟩
/-- a slot's cells -/
def slotC (r : Option Dk.Rc) : Array Value := #[.int .i64 ((r.getD Dk.Rc.zero).n : Nat), .int .i64 ((r.getD Dk.Rc.zero).i : Nat), .int .i64 ((r.getD Dk.Rc.zero).p : Nat), .int .i64 ((r.getD Dk.Rc.zero).q : Nat), .bool r.isSome]
/-- a call answered a slot, and turned nothing that was there -/
def GotS (W w : World) (r : Option Dk.Rc) (e : Ending) (w' : World) : Prop := e = .returned (.agg (slotC r)) ∧ Below W.heap.size W w' ∧ Below w.heap.size w w'
set_option maxHeartbeats 2000000 in
set_option maxRecDepth 100000 in
theorem dparse_raw {w : World} {A : Option Addr} {n c B : Nat} {l : List Nat} (hb : ∀ x ∈ l, x < 256) (hl : l.length ≤ 2000000) (hc : n ≤ c) (h : Rd w B A n (bv l)) : Calls Try.prog 73 #[.slice A n c] w (GotS w w (Dk.parse l)) := by
  obtain ⟨g, hg⟩ : ∃ g, w.heap.size = g := ⟨_, rfl⟩
  obtain ⟨wz, hwz⟩ : ∃ wz, w.alloc (.cells #[.int .i64 0, .int .i64 0, .int .i64 0, .int .i64 0, .bool false] 84) = wz := ⟨_, rfl⟩
  have hbb : Below w.heap.size w wz := by rw [← hwz]; exact (Below.refl _ _).alloc (Nat.le_refl _) _
  have k1 : Blk wz g 84 #[.int .i64 0, .int .i64 0, .int .i64 0, .int .i64 0, .bool false] := by rw [← hwz, ← hg]; exact Blk.new _ _ _
  have CL : Hid (Calls Try.prog 53 #[.slice A n c] wz (GotU wz wz (Fr.unf l))) := Lib.hid (seallift rfl hb hl hc (h.fit.below hbb) (Below.refl _ _))
  have hpar : Dk.parse l = (Fr.unf l).bind Dk.get := rfl
  have hlu : ∀ x, Fr.unf l = some x → (∀ y ∈ x, y < 256) ∧ x.length ≤ 2000000 := fun x hx => by
    obtain ⟨e, _⟩ := Fr.unf_is hx
    subst e
    exact ⟨fun y hy => hb y (List.mem_of_mem_drop hy), by rw [List.length_drop]; omega⟩
  obtain ⟨X, hX⟩ : ∃ X, Fr.unf l = X := ⟨_, rfl⟩
  rw [hX] at CL hpar hlu
  obtain ⟨R, hR⟩ : ∃ R, Dk.parse l = R := ⟨_, rfl⟩
  rw [hR] at hpar ⊢
  have HB := Lib.hid hbb
  have HK1 := Lib.hid k1
  have HWZ := Lib.hid hwz
  have HG := Lib.hid hg
  have HEND : Hid (∀ wx, Below wz.heap.size wz wx → Below w.heap.size w (wx.setRow g (slotC R))) := Lib.hid fun wx hx => by
    have := hbb.trans (hx.mono hbb.size)
    exact below_setRow this (by rw [hg]; exact Nat.le_refl _) _
  clear hbb k1 hwz hg hX hb hl hc h hR
  cases X with
  | none =>
    have HR : Hid (R = none) := Lib.hid hpar
    clear hpar hlu
    go_enter Try.func73, Try.ntmps73
    go_upto_region 1 with fail
    rw [HG.out, HWZ.out]
    clear HWZ
    go_wp2_with (first
      | (go_at_call 53; refine CL.out.mono ?_; rintro en w1 ⟨A1, c1, rfl, ho, hB, hb⟩; have HB1 := Lib.hid hB; have HK2 := Lib.hid (HK1.out.below hB); clear ho hB hb)
      | (refine wpList_store_row rfl 84 (.tmp 2) (.tmp 17) rfl g #[.int .i64 0, .int .i64 0, .int .i64 0, .int .i64 0, .bool false] rfl rfl 84 #[.int .i64 0, .int .i64 0, .int .i64 0, .int .i64 0, .bool false] HK2.out (by kernel_rfl) rfl (by kernel_rfl) ?_)
      | fail)
    refine bodyPost_ret (results_cell_row rfl _ _ _ _ _ _ _ rfl (HK2.out.row #[.int .i64 0, .int .i64 0, .int .i64 0, .int .i64 0, .bool false]) Try.underlying84 rfl (by kernel_rfl)) rfl ?_
    have q := HEND.out _ HB1.out
    rw [HR.out] at q ⊢
    exact ⟨rfl, q, q⟩
  | some x =>
    obtain ⟨hx1, hx2⟩ := hlu x rfl
    have HX1 := Lib.hid hx1
    have HX2 := Lib.hid hx2
    have hR2 : R = if Dk.s4 x = some [] then some (Dk.got x) else none := hpar
    obtain ⟨n1, hn1⟩ : ∃ v, Pk.numV (some x) 1099511627776 = v := ⟨_, rfl⟩
    obtain ⟨t1, ht1⟩ : ∃ v, Pk.numS (some x) 1099511627776 = v := ⟨_, rfl⟩
    obtain ⟨n2, hn2⟩ : ∃ v, Pk.numV t1 1099511627776 = v := ⟨_, rfl⟩
    obtain ⟨t2, ht2⟩ : ∃ v, Pk.numS t1 1099511627776 = v := ⟨_, rfl⟩
    obtain ⟨n3, hn3⟩ : ∃ v, Pk.numV t2 1099511627776 = v := ⟨_, rfl⟩
    obtain ⟨t3, ht3⟩ : ∃ v, Pk.numS t2 1099511627776 = v := ⟨_, rfl⟩
    obtain ⟨n4, hn4⟩ : ∃ v, Pk.numV t3 1099511627776 = v := ⟨_, rfl⟩
    obtain ⟨t4, ht4⟩ : ∃ v, Pk.numS t3 1099511627776 = v := ⟨_, rfl⟩
    have hR3 : R = if t4 = some [] then some ⟨n1, n2, n3, n4⟩ else none := by
      rw [hR2]
      unfold Dk.s4 Dk.got Dk.s3 Dk.s2 Dk.s1
      rw [ht1, ht2, ht3, ht4, hn1, hn2, hn3, hn4]
    have HN1 := Lib.hid hn1
    have HN2 := Lib.hid hn2
    have HN3 := Lib.hid hn3
    have HN4 := Lib.hid hn4
    have HT1 := Lib.hid ht1
    have HT2 := Lib.hid ht2
    have HT3 := Lib.hid ht3
    have HT4 := Lib.hid ht4
    have HR := Lib.hid hR3
    clear hpar hlu hx1 hx2 hR2 hR3 hn1 hn2 hn3 hn4 ht1 ht2 ht3 ht4
    go_enter Try.func73, Try.ntmps73
    go_upto_region 1 with fail
    rw [HG.out, HWZ.out]
    clear HWZ
    go_upto_region 5 with (first
      | (go_at_call 53; refine CL.out.mono ?_; rintro en w1 ⟨A1, c1, rfl, ho, hB, hb⟩
         have HO : Hid (OwnB wz w1 A1 x.length c1 x) := Lib.hid ho
         have HB1 := Lib.hid hB
         clear ho hB hb)
      | (go_at_call 45; refine (read_in (W := wz) (by have := HX2.out; unfold Lim; omega) HX1.out (Rd.own_ HO.out) HB1.out).mono ?_; rintro en w2 ⟨b, rfl, hr, hbb, hb2, hB, hb⟩
         have HR2 := Lib.hid hr
         have HB2 := Lib.hid hB
         have HBB := Lib.hid hbb
         clear hr hbb hb2 hB hb)
      | fail)
    clear HO HB1 HX1 HX2
    go_upto_region 6 with (first
      | (go_at_call 78; refine (num_in HR2.out HB2.out HBB.out HN1.out HT1.out).mono ?_; rintro en w3 ⟨rfl, hr, hB, ho⟩
         have HR3 := Lib.hid hr
         have HB3 := Lib.hid hB
         clear hr hB ho)
      | fail)
    clear HR2 HB2 HN1 HT1
    go_upto_region 7 with (first
      | (go_at_call 78; refine (num_in HR3.out HB3.out HBB.out HN2.out HT2.out).mono ?_; rintro en w4 ⟨rfl, hr, hB, ho⟩
         have HR4 := Lib.hid hr
         have HB4 := Lib.hid hB
         clear hr hB ho)
      | fail)
    clear HR3 HB3 HN2 HT2
    go_upto_region 8 with (first
      | (go_at_call 78; refine (num_in HR4.out HB4.out HBB.out HN3.out HT3.out).mono ?_; rintro en w5 ⟨rfl, hr, hB, ho⟩
         have HR5 := Lib.hid hr
         have HB5 := Lib.hid hB
         clear hr hB ho)
      | fail)
    clear HR4 HB4 HN3 HT3
    go_upto_region 9 with (first
      | (go_at_call 78; refine (num_in HR5.out HB5.out HBB.out HN4.out HT4.out).mono ?_; rintro en w6 ⟨rfl, hr, hB, ho⟩
         have HR6 := Lib.hid hr
         have HB6 := Lib.hid hB
         clear hr hB ho)
      | fail)
    clear HR5 HB5 HN4 HT4
    have HK2 := Lib.hid (HK1.out.below HB6.out)
    have CE := Lib.hid (end_any w6 b t4 HR6.out)
    by_cases he : t4 = some []
    · have hE : Pk.endOf t4 = true := by unfold Pk.endOf; exact decide_eq_true he
      rw [hE] at CE
      have HRR : Hid (R = some ⟨n1, n2, n3, n4⟩) := Lib.hid (by rw [HR.out, if_pos he])
      clear he hE HR
      go_wp2_with (first
        | (go_at_call 46; refine CE.out.mono ?_; rintro en w7 ⟨rfl, rfl⟩)
        | (refine wpList_store_row rfl 84 (.tmp 2) (.tmp 37) rfl g #[.int .i64 (n1 : Nat), .int .i64 (n2 : Nat), .int .i64 (n3 : Nat), .int .i64 (n4 : Nat), .bool true] rfl rfl 84 #[.int .i64 0, .int .i64 0, .int .i64 0, .int .i64 0, .bool false] HK2.out (by kernel_rfl) rfl (by kernel_rfl) ?_)
        | fail)
      refine bodyPost_ret (results_cell_row rfl _ _ _ _ _ _ _ rfl (HK2.out.row #[.int .i64 (n1 : Nat), .int .i64 (n2 : Nat), .int .i64 (n3 : Nat), .int .i64 (n4 : Nat), .bool true]) Try.underlying84 rfl (by kernel_rfl)) rfl ?_
      have q := HEND.out _ HB6.out
      rw [HRR.out] at q ⊢
      exact ⟨rfl, q, q⟩
    · have hE : Pk.endOf t4 = false := by unfold Pk.endOf; exact decide_eq_false he
      rw [hE] at CE
      have HRR : Hid (R = none) := Lib.hid (by rw [HR.out, if_neg he])
      clear he hE HR
      go_wp2_with (first
        | (go_at_call 46; refine CE.out.mono ?_; rintro en w7 ⟨rfl, rfl⟩)
        | (refine wpList_store_row rfl 84 (.tmp 2) (.tmp 31) rfl g #[.int .i64 0, .int .i64 0, .int .i64 0, .int .i64 0, .bool false] rfl rfl 84 #[.int .i64 0, .int .i64 0, .int .i64 0, .int .i64 0, .bool false] HK2.out (by kernel_rfl) rfl (by kernel_rfl) ?_)
        | fail)
      refine bodyPost_ret (results_cell_row rfl _ _ _ _ _ _ _ rfl (HK2.out.row #[.int .i64 0, .int .i64 0, .int .i64 0, .int .i64 0, .bool false]) Try.underlying84 rfl (by kernel_rfl)) rfl ?_
      have q := HEND.out _ HB6.out
      rw [HRR.out] at q ⊢
      exact ⟨rfl, q, q⟩
theorem dparse {W w : World} {A : Option Addr} {n c B : Nat} {l : List Nat} {r : Option Dk.Rc} (he : Dk.parse l = r) (hb : ∀ x ∈ l, x < 256) (hl : l.length ≤ 2000000) (hc : n ≤ c) (h : Rd w B A n (bv l)) (hB : Below W.heap.size W w) : Calls Try.prog 73 #[.slice A n c] w (GotS W w r) := by
  subst he
  exact (dparse_raw hb hl hc h).mono fun e w' ⟨h1, h2, h3⟩ => ⟨h1, hB.trans (h2.mono hB.size), h3⟩
set_option maxHeartbeats 2000000 in
set_option maxRecDepth 100000 in
theorem dhead_raw {w : World} {A : Option Addr} {c : Nat} {l : List Nat} {cut : Int} {W : World} (hl : l.length ≤ 2000000) (h : OwnB W w A l.length c l) (hB : Below W.heap.size W w) : Calls Try.prog 57 #[.slice A l.length c, .int .i64 cut] w (GotIn W w (Dk.head l cut)) := by
  have HO := Lib.hid h
  have HB := Lib.hid hB
  have hc := (own_cap h).1
  obtain ⟨i9, hi1, hi2, hi3, hi4⟩ := info_parts byteT.info
  clear hi2 hi4 hi3
  obtain ⟨n, hn⟩ : ∃ n, l.length = n := ⟨_, rfl⟩
  have HN := Lib.hid hn
  rw [hn] at HO hl hc ⊢
  by_cases h0 : cut < 0
  · have HR : Hid (Dk.head l cut = l) := Lib.hid (by unfold Dk.head; rw [if_pos (.inl h0)])
    clear h hB hn hi1
    go_enter Try.func57, Try.ntmps57
    go_wp2
    go_ret
    rw [HR.out]
    exact ⟨A, c, by rw [HN.out]; rfl, by rw [HN.out]; exact HO.out, HB.out, Below.refl _ _⟩
  · by_cases h1 : (n : Int) < cut
    · have HR : Hid (Dk.head l cut = l) := Lib.hid (by unfold Dk.head; rw [if_pos (.inr (by rw [hn]; exact h1))])
      clear h hB hn hi1
      go_enter Try.func57, Try.ntmps57
      go_wp2
      go_ret
      rw [HR.out]
      exact ⟨A, c, by rw [HN.out]; rfl, by rw [HN.out]; exact HO.out, HB.out, Below.refl _ _⟩
    · obtain ⟨k, rfl⟩ : ∃ k : Nat, cut = (k : Int) := ⟨cut.toNat, by omega⟩
      have hk : k ≤ n := by omega
      have HR : Hid (Dk.head l (k : Int) = l.take k) := Lib.hid (by unfold Dk.head; rw [if_neg (by rw [hn]; omega), Int.toNat_natCast])
      have HLEN : Hid ((l.take k).length = k) := Lib.hid (by rw [List.length_take]; omega)
      have hs1 := run_slice_to (P := Try.prog) (t := 22) byteT.under hi1 A n c k (by omega)
      have HRD : Hid (Rd w w.heap.size A k (bv (l.take k))) := Lib.hid (by rw [bv_take]; exact (Rd.own_ h).take (by omega))
      have CC : Hid (Calls Try.prog 58 #[.slice A k c] w (GotIn W w (l.take k))) := Lib.hid (clone_any (by unfold Lim; omega) HRD.out hB)
      clear h hB hn hi1
      go_enter Try.func57, Try.ntmps57
      go_wp2_with (first
        | (go_at_call 58; refine CC.out.mono ?_; rintro en w1 ⟨A1, c1, he, ho, hB1, hb1⟩
           have he2 : en = .returned (.slice A1 k c1) := by rw [he, HLEN.out]
           clear he
           subst he2
           have HO1 := Lib.hid ho
           have HB1 := Lib.hid hB1
           have HB2 := Lib.hid hb1
           clear ho hB1 hb1)
        | fail)
      go_ret
      rw [HR.out]
      exact ⟨A1, c1, by rw [HLEN.out]; rfl, HO1.out, HB1.out, HB2.out⟩
theorem dhead {W w : World} {A : Option Addr} {c : Nat} {l L : List Nat} {cut : Int} (he : Dk.head l cut = L) (hl : l.length ≤ 2000000) (h : OwnB W w A l.length c l) (hB : Below W.heap.size W w) : Calls Try.prog 57 #[.slice A l.length c, .int .i64 cut] w (GotIn W w L) := by
  subst he; exact dhead_raw hl h hB
/-- four numbers as they are held -/
def heldL (zs : List Int) : List Int := zs.map fun z => ((Dk.held z : Nat) : Int)
theorem heldL_take {zs : List Int} {j : Nat} {z : Int} (h : zs[j]? = some z) : Pk.encs (heldL (zs.take (j + 1))) = Pk.encs (heldL (zs.take j)) ++ Pk.enc (Pk.held (Dk.held z : Nat)) := by
  unfold heldL
  rw [List.take_add_one, h]
  simp only [Option.toList_some, List.map_append, List.map_cons, List.map_nil]
  exact Pk.encs_snoc _ _
theorem encs_four (n i p q : Int) : Pk.encs (heldL [n, i, p, q]) = Dk.enc4 (Dk.rc n i p q) := by
  simp only [heldL, List.map_cons, List.map_nil, Pk.encs, Dk.enc4, Dk.rc, Dk.held_pk, List.append_nil, List.append_assoc]
set_option maxHeartbeats 2000000 in
set_option maxRecDepth 100000 in
theorem dslot_raw (w : World) (n i p q : Int) : Calls Try.prog 29 #[.int .i64 n, .agg #[.int .i64 i, .int .i64 p, .int .i64 q]] w (GotIn w w (Dk.slot n i p q)) := by
  obtain ⟨g, hg⟩ : ∃ g, w.heap.size = g := ⟨_, rfl⟩
  obtain ⟨wz, hwz⟩ : ∃ wz, w.alloc (.cells #[.int .i64 i, .int .i64 p, .int .i64 q] 46) = wz := ⟨_, rfl⟩
  have hbb : Below w.heap.size w wz := by rw [← hwz]; exact (Below.refl _ _).alloc (Nat.le_refl _) _
  have k1 : Blk wz g 46 #[.int .i64 i, .int .i64 p, .int .i64 q] := by rw [← hwz, ← hg]; exact Blk.new _ _ _
  have hc0 : wz.cell? ⟨g, 0, none⟩ = some (.int .i64 i) := k1.cell 0
  have hc1 : wz.cell? ⟨g, 1, none⟩ = some (.int .i64 p) := k1.cell 1
  have hc2 : wz.cell? ⟨g, 2, none⟩ = some (.int .i64 q) := k1.cell 2
  have HB := Lib.hid hbb
  have HWZ := Lib.hid hwz
  have HG := Lib.hid hg
  have HS : Hid (Dk.slot n i p q = Fr.lay (Pk.encs (heldL [n, i, p, q]))) := Lib.hid (by rw [encs_four]; rfl)
  obtain ⟨S, hS⟩ : ∃ S, Dk.slot n i p q = S := ⟨_, rfl⟩
  have HSL := Lib.hid hS
  rw [hS] at HS ⊢
  clear hbb k1 hwz hg hS
  go_enter Try.func29, Try.ntmps29
  go_upto_region 1 with fail
  rw [HG.out, HWZ.out]
  clear HWZ
  go_wp2_with fail
  have hb2 : Below wz.heap.size wz (wz.alloc (.cells #[.int .i64 n, .int .i64 i, .int .i64 p, .int .i64 q] 3)) := (Below.refl _ _).alloc (Nat.le_refl _) _
  have hrow : Rd (wz.alloc (.cells #[.int .i64 n, .int .i64 i, .int .i64 p, .int .i64 q] 3)) (wz.heap.size + 1) (some ⟨wz.heap.size, 0, none⟩) 4 (iv [n, i, p, q]) := Rd.made wz #[.int .i64 n, .int .i64 i, .int .i64 p, .int .i64 q] 3 (0, 0) 4 rfl
  obtain ⟨g2, hg2⟩ : ∃ g, wz.heap.size = g := ⟨_, rfl⟩
  obtain ⟨wy, hwy⟩ : ∃ x, wz.alloc (.cells #[.int .i64 n, .int .i64 i, .int .i64 p, .int .i64 q] 3) = x := ⟨_, rfl⟩
  rw [hwy] at hb2 hrow ⊢
  rw [hg2] at hrow ⊢
  have HRW := Lib.hid hrow.fit
  have HBY := Lib.hid (HB.out.trans (hb2.mono HB.out.size))
  clear hb2 hrow hg2 hwy hc0 hc1 hc2 HB
  obtain ⟨zs, hzs⟩ : ∃ zs, [n, i, p, q] = zs := ⟨_, rfl⟩
  have hlen : zs.length = 4 := by rw [← hzs]; rfl
  rw [hzs] at HS HRW
  have HL := Lib.hid hlen
  clear hlen hzs
  go_loopw [5, 17] (fun b k wr => ∃ (j : Nat) (A1 : Option Addr) (c1 : Nat), j ≤ 4 ∧ k = .int .i64 (j : Int) ∧ b = .slice A1 (Pk.encs (heldL (zs.take j))).length c1 ∧ Hid (OwnB w wr A1 (Pk.encs (heldL (zs.take j))).length c1 (Pk.encs (heldL (zs.take j)))) ∧ Hid (Below w.heap.size w wr) ∧ Hid (Below wy.heap.size wy wr)) (fun _ k _ => 4 - (intOf k).toNat)
  case atStart => exact ⟨0, none, 0, by omega, rfl, rfl, Lib.hid (own_nil _ _), HBY, Lib.hid (Below.refl _ _)⟩
  case round =>
    obtain ⟨j, A1, c1, hj, rfl, rfl, HO1, HB1, HW1⟩ := hrel
    by_cases hlt : j < 4
    · obtain ⟨z, hz⟩ : ∃ z, zs[j]? = some z := ⟨_, List.getElem?_eq_getElem (by have := HL.out; omega)⟩
      have hc := (HRW.out.below HW1.out).int_cell hlt hz
      simp only [Nat.zero_add] at hc
      have HE := Lib.hid (heldL_take hz)
      clear hz
      have hX : (Pk.encs (heldL (zs.take j))).length ≤ 9 * 1000 := by
        have h1 := Pk.encs_length (heldL (zs.take j))
        have h2 : (heldL (zs.take j)).length ≤ 4 := by unfold heldL; rw [List.length_map, List.length_take]; omega
        omega
      obtain ⟨X, hXX⟩ : ∃ X, Pk.encs (heldL (zs.take j)) = X := ⟨_, rfl⟩
      obtain ⟨Y, hY⟩ : ∃ Y, Pk.encs (heldL (zs.take (j + 1))) = Y := ⟨_, rfl⟩
      have he : X ++ Pk.enc (Pk.held (Dk.held z : Nat)) = Y := by rw [← hXX, ← hY, HE.out]
      rw [hXX] at HO1 hX ⊢
      have HCC : Hid (Calls Try.prog 59 #[.slice A1 X.length c1, .int .i64 (Dk.held z : Nat)] wr fun e w' => ∃ A n c, e = .returned (.slice A n c) ∧ OwnB w w' A n c Y ∧ Below w.heap.size w w' ∧ Below wr.heap.size wr w') := Lib.hid (put_in (by unfold Lim; omega) (Rd.own_ HO1.out) HB1.out he)
      have HY := Lib.hid hY
      clear hX hXX hY he HE
      go_wp2_with (first
        | (go_at_call 60; refine (dheld _ _).mono ?_; rintro e w' ⟨rfl, rfl⟩)
        | (go_at_call 59; refine HCC.out.mono ?_; rintro e w2 ⟨A2, n2, c2, rfl, ho2, hB2, hb2⟩
           obtain rfl := own_len ho2
           have HO2 := Lib.hid ho2
           have HB2 := Lib.hid hB2
           have HW2 := Lib.hid (HW1.out.trans (hb2.mono HW1.out.size))
           clear ho2 hB2 hb2)
        | fail)
      go_roundw
      case rel =>
        refine ⟨j + 1, A2, c2, by omega, by go_num, ?_⟩
        rw [HY.out]
        exact ⟨rfl, HO2, HB2, HW2⟩
      case measure => simp [intOf]; omega
    · have HJ : Hid (zs.take j = zs) := Lib.hid (List.take_of_length_le (by have := HL.out; omega))
      rw [HJ.out] at HO1 ⊢
      have hX : (Pk.encs (heldL zs)).length ≤ 9 * 1000 := by
        have h1 := Pk.encs_length (heldL zs)
        have h2 : (heldL zs).length = 4 := by unfold heldL; rw [List.length_map]; exact HL.out
        omega
      have hlt2 := Pk.encs_lt (heldL zs)
      obtain ⟨X, hXX⟩ : ∃ X, Pk.encs (heldL zs) = X := ⟨_, rfl⟩
      rw [hXX] at HO1 hX hlt2 HS ⊢
      have CL : Hid (Calls Try.prog 52 #[.slice A1 X.length c1] wr (GotIn w wr S)) := Lib.hid (seallay HS.out.symm hlt2 (by omega) (Rd.own_ HO1.out) HB1.out)
      clear hX hlt2 hXX
      go_wp2_with (first
        | (go_at_call 52; refine CL.out.mono ?_; rintro e w2 ⟨A2, c2, rfl, ho2, hB2, hb2⟩
           have HO2 := Lib.hid ho2
           have HB2 := Lib.hid hB2
           clear ho2 hB2 hb2)
        | fail)
      go_ret
      exact ⟨A2, c2, rfl, HO2.out, HB2.out, HB2.out⟩
theorem dslot {W w : World} {n i p q : Int} {S : List Nat} (he : Dk.slot n i p q = S) (hB : Below W.heap.size W w) : Calls Try.prog 29 #[.int .i64 n, .agg #[.int .i64 i, .int .i64 p, .int .i64 q]] w (GotIn W w S) := by
  subst he
  exact (dslot_raw w n i p q).mono fun e w' ⟨A, c, h1, h2, h3, h4⟩ => ⟨A, c, h1, own_of hB.size h2, hB.trans (h3.mono hB.size), h4⟩
end Go.Proofs.Ytlfkgpllleogoaa

