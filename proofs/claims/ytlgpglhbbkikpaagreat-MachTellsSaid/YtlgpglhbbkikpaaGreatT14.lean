/- MachRefN -/
import Derived.Test.YtlgpglhbbkikpaaGreatT00
import Derived.Test.YtlgpglhbbkikpaaGreatT13
namespace Go.Proofs.YtlgpglhbbkikpaaGreat
open Go.RowKit
set_option linter.unusedVariables false
structure BoxM (w wx : World) (b : Nat) (a : MA) (m : Mc) : Prop where
 blk : Blk wx b 36 (machC a m)
 rd : RdM wx w.heap.size a m
 bel : Below w.heap.size w wx
theorem BoxM.below {w wx wy : World} {b : Nat} {a : MA} {m : Mc} (h : BoxM w wx b a m) (hb : Below wx.heap.size wx wy) : BoxM w wy b a m :=
 ⟨h.blk.below hb, h.rd.below (hb.mono h.bel.size), h.bel.trans (hb.mono h.bel.size)⟩
theorem BoxM.start {w : World} {a : MA} {m : Mc} {B : Nat} (h : RdM w B a m) : BoxM w (w.alloc (.cells (machC a m) 36)) w.heap.size a m :=
 ⟨Blk.new _ _ _, h.fit.below ((Below.refl _ _).alloc lR _), (Below.refl _ _).alloc lR _⟩
theorem encQ_take {qs : List (List Nat)} (h : ∀ x ∈ qs, x.length <= 16) (hq : qs.length <= 8) (k : Nat) : (encQ (qs.take k)).length <= 200 := by
 have := encQ_length (qs := qs.take k) fun x hx => h x (List.mem_of_mem_take hx)
 have h2 : (qs.take k).length <= qs.length := by rw [List.length_take]; omega
 omega
theorem encs_take {zs : List Int} (hq : zs.length <= 5) (k : Nat) : (Pk.encs (zs.take k)).length <= 45 := by
 have := Pk.encs_length (zs.take k)
 have h2 : (zs.take k).length <= zs.length := by rw [List.length_take]; omega
 omega
theorem encP_take {ps : List Pr} (h : ∀ p ∈ ps, p.1.length <= 8 /\ p.2.length <= 16) (hq : ps.length <= 8) (k : Nat) : (encP (ps.take k)).length <= 336 := by
 have := encP_length (ps := ps.take k) fun x hx => h x (List.mem_of_mem_take hx)
 have h2 : (ps.take k).length <= ps.length := by rw [List.length_take]; omega
 omega
theorem encT_take {ls : List Ls} (h : ∀ l ∈ ls, l.v.length <= 16) (hq : ls.length <= 8) (k : Nat) : (encT (ls.take k)).length <= 488 := by
 have := encT_length (ls := ls.take k) fun x hx => h x (List.mem_of_mem_take hx)
 have h2 : (ls.take k).length <= ls.length := by rw [List.length_take]; omega
 omega
theorem encs_snoc_at {zs : List Int} {k : Nat} {z : Int} (h : zs[k]? = some z) : Pk.encs (zs.take (k + 1)) = Pk.encs (zs.take k) ++ Pk.enc (Pk.held z) := by
 rw [List.take_add_one, h]; exact Pk.encs_snoc _ _
theorem encQ_snoc_at {qs : List (List Nat)} {k : Nat} {x : List Nat} (h : qs[k]? = some x) : encQ (qs.take (k + 1)) = encQ (qs.take k) ++ Pk.encB x := by
 rw [List.take_add_one, h]; exact encQ_snoc _ _
theorem encP_snoc_at {ps : List Pr} {k : Nat} {p : Pr} (h : ps[k]? = some p) : encP (ps.take (k + 1)) = encP (ps.take k) ++ Pk.encB p.1 ++ Pk.encB p.2 := by
 rw [List.take_add_one, h]; exact encP_snoc _ _
theorem encT_snoc_at {ls : List Ls} {k : Nat} {l : Ls} (h : ls[k]? = some l) : encT (ls.take (k + 1)) = encT (ls.take k) ++ Pk.enc (Pk.held l.s) ++ Pk.enc (Pk.held l.q) ++ Pk.enc (Pk.held l.e) ++ Pk.enc (Pk.held (l.n + 1)) ++ Pk.encB l.v := by
 rw [List.take_add_one, h]; exact encT_snoc _ _
theorem len_app {l l' x : List Nat} {k j : Nat} (he : l' = l ++ x) (h : l.length <= k) (hx : x.length <= j) : l'.length <= k + j := by
 subst he; simp; omega
set_option maxHeartbeats 4000000 in
set_option maxRecDepth 100000 in
theorem refEncode_raw {w : World} {a : MA} {m : Mc} {B : Nat} (hM : m.Ok) (h : RdM w B a m) :
 Calls Tryz.prog 18 #[machV a m] w (GotIn w w m.enc) := by
 obtain ⟨⟨A0, c0, A1, c1, A2, c2, A3, c3⟩, At, ct⟩ := a
 have HBX := hD (BoxM.start h)
 have HM := hD hM
 have hq8 := hM.o.ql
 have hl5 := hM.o.lkl
 have hm8 := hM.o.mp.few
 have ht8 := hM.t8
 clear h hM
 unfold machV
 simp only [machC] at HBX |-
 go_enter Tryz.func18, Tryz.ntmps18
 go_upto_region 1 with fail
 generalize w.alloc (.cells #[.slice A0 m.o.reg.length c0, .slice A1 m.o.q.length c1, .slice A2 m.o.lk.length c2, .slice A3 m.o.mp.length c3, .slice At m.t.length ct] 36) = wa at HBX |-
 obtain ⟨x0, x1, x2, x3, x4⟩ := five (t := 36) HBX.out.blk
 obtain ⟨l1, e1⟩ : ∃ x, Pk.encB m.o.reg = x := ⟨_, rfl⟩
 have len1 : Hid (l1.length <= 25) := hD (by rw [<- e1]; have := encB_length m.o.reg; have := HM.out.o.reg; omega)
 obtain ⟨l2, e2⟩ : ∃ x, l1 ++ Pk.enc (Pk.held (m.o.q.length : Int)) = x := ⟨_, rfl⟩
 have len2 : Hid (l2.length <= 34) := hD (len_num e2 len1.out)
 have E1 := hD e1
 have E2 := hD e2
 clear e1 e2
 go_wp2_with (first
  | (go_at_call 38; refine (refputb_in (W := w) (l := []) (x := m.o.reg) (l' := l1) (by rw [<- E1.out]; rfl) (Rd.none_ wa 0 none) HBX.out.rd.o.r0 (by have := HM.out.o.reg; unfold Lim; simp; omega) HBX.out.bel).mono ?_; rintro e w1 ⟨A5, c5, rfl, ho, hB, hb⟩; have HBX := hD (HBX.out.below hb); have HO := hD ho; clear ho hB hb x0 x1 x2 x3 x4; obtain ⟨x0, x1, x2, x3, x4⟩ := five (t := 36) HBX.out.blk)
  | (go_at_call 37; refine (refput_in (W := w) E2.out (by have := len1.out; unfold Lim; omega) (Rd.own_ HO.out) HBX.out.bel).mono ?_; rintro e w2 ⟨A6, c6, rfl, ho, hB, hb⟩; have HBX := hD (HBX.out.below hb); have HO := hD ho; clear ho hB hb x0 x1 x2 x3 x4; obtain ⟨x0, x1, x2, x3, x4⟩ := five (t := 36) HBX.out.blk)
  | fail)
 go_loopw [3, 4] (fun s3 s4 wr => ∃ (k : Nat) (A' : Option Addr) (c' : Nat) (l' : List Nat), k <= m.o.q.length /\ s4 = .int .i64 (k : Int) /\ s3 = .slice A' l'.length c' /\ Hid (OwnB w wr A' l'.length c' l') /\ Hid (l' = l2 ++ encQ (m.o.q.take k)) /\ Hid (BoxM w wr w.heap.size ⟨⟨A0, c0, A1, c1, A2, c2, A3, c3⟩, At, ct⟩ m)) (fun _ s4 _ => m.o.q.length - (intOf s4).toNat)
 case atStart => exact ⟨0, A6, c6, l2, Nat.zero_le _, rfl, rfl, HO, hD (by simp [encQ]), HBX⟩
 case round =>
  clear HBX HO x0 x1 x2 x3 x4
  obtain ⟨k, A', c', l', hk, rfl, rfl, HO, HE, HBX⟩ := hrel
  by_cases hlt : k < m.o.q.length
  · obtain ⟨b, o, x, A7, c7, hA, hx, hcell, hrd⟩ := HBX.out.rd.o.r1.at hlt
    have hA : A1 = some ⟨b, o, none⟩ := hA
    subst hA
    have HX := hD hx
    have HRD := hD hrd
    have lenk : Hid (l'.length <= 234) := hD (len_app HE.out len2.out (encQ_take HM.out.o.qv hq8 k))
    have hx16 : x.length <= 16 := HM.out.o.qv x (List.mem_of_getElem? hx)
    obtain ⟨l'', e''⟩ : ∃ y, l' ++ Pk.encB x = y := ⟨_, rfl⟩
    have E'' := hD e''
    clear e'' hx hrd
    obtain ⟨x0, x1, x2, x3, x4⟩ := five (t := 36) HBX.out.blk
    go_wp2_with (first
     | (go_at_call 38; refine (refputb_in (W := w) E''.out (Rd.own_ HO.out) HRD.out (by have := lenk.out; unfold Lim; omega) HBX.out.bel).mono ?_; rintro e w4 ⟨A8, c8, rfl, ho, hB, hb⟩)
     | fail)
    go_roundw
    case rel => exact ⟨k + 1, A8, c8, l'', by omega, by go_num, rfl, hD ho, hD (by rw [<- E''.out, HE.out, encQ_snoc_at HX.out, List.append_assoc]), hD (HBX.out.below hb)⟩
    case measure => simp only [intOf]; omega
  · obtain rfl : k = m.o.q.length := by omega
    rw [List.take_of_length_le lR] at HE
    obtain ⟨x0, x1, x2, x3, x4⟩ := five (t := 36) HBX.out.blk
    obtain ⟨l3, hl3⟩ : ∃ x, l' = x := ⟨_, rfl⟩
    rw [hl3] at HE HO |-
    clear hl3
    have HE3 := HE
    have len3 : Hid (l3.length <= 234) := hD (len_app HE3.out len2.out (by have := encQ_take HM.out.o.qv hq8 m.o.q.length; rwa [List.take_of_length_le lR] at this))
    obtain ⟨l4, e4⟩ : ∃ x, l3 ++ Pk.enc (Pk.held (m.o.lk.length : Int)) = x := ⟨_, rfl⟩
    have len4 : Hid (l4.length <= 243) := hD (len_num e4 len3.out)
    have E4 := hD e4
    clear e4 HE
    go_wp2_with (first
     | (go_at_call 37; refine (refput_in (W := w) E4.out (by have := len3.out; unfold Lim; omega) (Rd.own_ HO.out) HBX.out.bel).mono ?_; rintro e w2 ⟨A6, c6, rfl, ho, hB, hb⟩; have HBX := hD (HBX.out.below hb); have HO := hD ho; clear ho hB hb x0 x1 x2 x3 x4; obtain ⟨x0, x1, x2, x3, x4⟩ := five (t := 36) HBX.out.blk)
     | fail)
    go_loopw [3, 5] (fun s3 s5 wr => ∃ (k : Nat) (A' : Option Addr) (c' : Nat) (l' : List Nat), k <= m.o.lk.length /\ s5 = .int .i64 (k : Int) /\ s3 = .slice A' l'.length c' /\ Hid (OwnB w wr A' l'.length c' l') /\ Hid (l' = l4 ++ Pk.encs (m.o.lk.take k)) /\ Hid (BoxM w wr w.heap.size ⟨⟨A0, c0, A1, c1, A2, c2, A3, c3⟩, At, ct⟩ m)) (fun _ s5 _ => m.o.lk.length - (intOf s5).toNat)
    case atStart => exact ⟨0, A6, c6, l4, Nat.zero_le _, rfl, rfl, HO, hD (by simp [Pk.encs]), HBX⟩
    case round =>
     clear HBX HO x0 x1 x2 x3 x4
     obtain ⟨k, A', c', l', hk, rfl, rfl, HO, HE, HBX⟩ := hrel
     by_cases hlt : k < m.o.lk.length
     · obtain ⟨z, hz⟩ : ∃ z, m.o.lk[k]? = some z := ⟨_, List.getElem?_eq_getElem hlt⟩
       obtain ⟨b, o, hA, _⟩ := HBX.out.rd.o.r2.int_at hlt
       have hA : A2 = some ⟨b, o, none⟩ := hA
       subst hA
       have hcell := HBX.out.rd.o.r2.int_cell hlt hz
       have HX := hD hz
       have lenk : Hid (l'.length <= 288) := hD (len_app HE.out len4.out (encs_take hl5 k))
       obtain ⟨l'', e''⟩ : ∃ y, l' ++ Pk.enc (Pk.held z) = y := ⟨_, rfl⟩
       have E'' := hD e''
       clear e'' hz
       obtain ⟨x0, x1, x2, x3, x4⟩ := five (t := 36) HBX.out.blk
       go_wp2_with (first
        | (go_at_call 37; refine (refput_in (W := w) E''.out (by have := lenk.out; unfold Lim; omega) (Rd.own_ HO.out) HBX.out.bel).mono ?_; rintro e w4 ⟨A8, c8, rfl, ho, hB, hb⟩)
        | fail)
       go_roundw
       case rel => exact ⟨k + 1, A8, c8, l'', by omega, by go_num, rfl, hD ho, hD (by rw [<- E''.out, HE.out, encs_snoc_at HX.out, List.append_assoc]), hD (HBX.out.below hb)⟩
       case measure => simp only [intOf]; omega
     · obtain rfl : k = m.o.lk.length := by omega
       rw [List.take_of_length_le lR] at HE
       obtain ⟨x0, x1, x2, x3, x4⟩ := five (t := 36) HBX.out.blk
       obtain ⟨l5, hl5'⟩ : ∃ x, l' = x := ⟨_, rfl⟩
       rw [hl5'] at HE HO |-
       clear hl5'
       have HE5 := HE
       have len5 : Hid (l5.length <= 288) := hD (len_app HE5.out len4.out (by have := encs_take hl5 m.o.lk.length; rwa [List.take_of_length_le lR] at this))
       obtain ⟨l6, e6⟩ : ∃ x, l5 ++ Pk.enc (Pk.held (m.o.mp.length : Int)) = x := ⟨_, rfl⟩
       have len6 : Hid (l6.length <= 297) := hD (len_num e6 len5.out)
       have E6 := hD e6
       clear e6 HE
       go_wp2_with (first
        | (go_at_call 37; refine (refput_in (W := w) E6.out (by have := len5.out; unfold Lim; omega) (Rd.own_ HO.out) HBX.out.bel).mono ?_; rintro e w2 ⟨A6, c6, rfl, ho, hB, hb⟩; have HBX := hD (HBX.out.below hb); have HO := hD ho; clear ho hB hb x0 x1 x2 x3 x4; obtain ⟨x0, x1, x2, x3, x4⟩ := five (t := 36) HBX.out.blk)
        | fail)
       go_loopw [3, 6] (fun s3 s6 wr => ∃ (k : Nat) (A' : Option Addr) (c' : Nat) (l' : List Nat), k <= m.o.mp.length /\ s6 = .int .i64 (k : Int) /\ s3 = .slice A' l'.length c' /\ Hid (OwnB w wr A' l'.length c' l') /\ Hid (l' = l6 ++ encP (m.o.mp.take k)) /\ Hid (BoxM w wr w.heap.size ⟨⟨A0, c0, A1, c1, A2, c2, A3, c3⟩, At, ct⟩ m)) (fun _ s6 _ => m.o.mp.length - (intOf s6).toNat)
       case atStart => exact ⟨0, A6, c6, l6, Nat.zero_le _, rfl, rfl, HO, hD (by simp [encP]), HBX⟩
       case round =>
        clear HBX HO x0 x1 x2 x3 x4
        obtain ⟨k, A', c', l', hk, rfl, rfl, HO, HE, HBX⟩ := hrel
        by_cases hlt : k < m.o.mp.length
        · obtain ⟨b, o, p, A7, c7, A8, c8, hA, hp, hcell1, hcell2, hrd1, hrd2⟩ := HBX.out.rd.o.r3.at hlt
          have hA : A3 = some ⟨b, o, none⟩ := hA
          subst hA
          have hblt := World.block_lt_of_cell? _ _ hcell1
          have HX := hD hp
          have HRD1 := hD hrd1.fit
          have HRD2 := hD hrd2.fit
          have hki : (k : Int) < (m.o.mp.length : Int) := by omega
          have hk0 : (0 : Int) <= (k : Int) := by omega
          have hpl := HM.out.o.mp.len p (List.mem_of_getElem? hp)
          have lenk : Hid (l'.length <= 633) := hD (len_app HE.out len6.out (encP_take HM.out.o.mp.len hm8 k))
          obtain ⟨l'', e''⟩ : ∃ y, l' ++ Pk.encB p.1 = y := ⟨_, rfl⟩
          have lenk2 : Hid (l''.length <= 633 + 9 + p.1.length) := hD (len_byt e'' lenk.out)
          obtain ⟨l3', e3'⟩ : ∃ y, l'' ++ Pk.encB p.2 = y := ⟨_, rfl⟩
          have E'' := hD e''
          have E3' := hD e3'
          clear e'' e3' hp hrd1 hrd2
          obtain ⟨x0, x1, x2, x3, x4⟩ := five (t := 36) HBX.out.blk
          go_upto_region 16 with fail
          have hbd : Below wr.heap.size wr wr.drew := (Below.refl _ _).drew
          have HS : Hid ((fun w' => Blk w' w.heap.size 36 #[.slice A0 m.o.reg.length c0, .slice A1 m.o.q.length c1, .slice A2 m.o.lk.length c2, .slice (some ⟨b, o, none⟩) m.o.mp.length c3, .slice At m.t.length ct] /\ w'.cell? ⟨b, o + k * 2, none⟩ = some (.slice A7 p.1.length c7) /\ w'.cell? ⟨b, o + k * 2 + 1, none⟩ = some (.slice A8 p.2.length c8)) wr.drew) := hD ⟨HBX.out.blk.below hbd, (hbd.cell (p := ⟨b, o + k * 2, none⟩) hblt).trans hcell1, (hbd.cell (p := ⟨b, o + k * 2 + 1, none⟩) hblt).trans hcell2⟩
          refine wp_region_held_drew (S := fun w' => Blk w' w.heap.size 36 #[.slice A0 m.o.reg.length c0, .slice A1 m.o.q.length c1, .slice A2 m.o.lk.length c2, .slice (some ⟨b, o, none⟩) m.o.mp.length c3, .slice At m.t.length ct] /\ w'.cell? ⟨b, o + k * 2, none⟩ = some (.slice A7 p.1.length c7) /\ w'.cell? ⟨b, o + k * 2 + 1, none⟩ = some (.slice A8 p.2.length c8)) (by kernel_rfl) HS.out (fun _ => ?_)
          have HB1 := hD (HBX.out.below hbd)
          have HO1 := hD (own_below HO.out hbd)
          have HP1 := hD (HRD1.out.below hbd).fit
          have HP2 := hD (HRD2.out.below hbd).fit
          have hbl1 : Hid (b < wr.drew.heap.size) := hD (Nat.lt_of_lt_of_le hblt hbd.size)
          clear hbd HBX HO HRD1 HRD2 x0 x1 x2 x3 x4 hcell1 hcell2 hblt
          generalize wr.drew = wd at HS HB1 HO1 HP1 HP2 hbl1 |-
          refine tkL (i := 0) (v := .slice A' l'.length c') rfl (fun w _ => by go_simp) HS.out ?_
          refine tkL (i := 1) (v := .pointer (some ⟨w.heap.size, 0, none⟩)) rfl (fun w _ => by go_simp) HS.out ?_
          refine tkL (i := 2) (v := .pointer (some ⟨w.heap.size, 3, none⟩)) rfl (fun w _ => by go_simp) HS.out ?_
          refine tkL (i := 9) (v := .pointer (some ⟨w.heap.size, 0, none⟩)) rfl (fun w _ => by go_simp) HS.out ?_
          refine tkL (i := 10) (v := .pointer (some ⟨w.heap.size, 3, none⟩)) rfl (fun w _ => by go_simp) HS.out ?_
          refine tkL (i := 4) (v := .int .i64 (k : Int)) rfl (fun w _ => by go_simp) HS.out ?_
          refine tkL (i := 12) (v := .int .i64 (k : Int)) rfl (fun w _ => by go_simp) HS.out ?_
          refine tkL (i := 3) (v := .slice (some ⟨b, o, none⟩) m.o.mp.length c3) rfl (fun w h => by obtain ⟨q0, q1, q2, q3, q4⟩ := five h.1; go_simp) HS.out ?_
          refine tkL (i := 11) (v := .slice (some ⟨b, o, none⟩) m.o.mp.length c3) rfl (fun w h => by obtain ⟨q0, q1, q2, q3, q4⟩ := five h.1; go_simp) HS.out ?_
          refine tkL (i := 5) (v := .pointer (some ⟨b, o + k * 2, none⟩)) rfl (fun w _ => by go_simp) HS.out ?_
          refine tkL (i := 13) (v := .pointer (some ⟨b, o + k * 2, none⟩)) rfl (fun w _ => by go_simp) HS.out ?_
          refine tkL (i := 6) (v := .pointer (some ⟨b, o + k * 2, none⟩)) rfl (fun w _ => by go_simp) HS.out ?_
          refine tkL (i := 14) (v := .pointer (some ⟨b, o + k * 2 + 1, none⟩)) rfl (fun w _ => by go_simp) HS.out ?_
          refine tkL (i := 7) (v := .slice A7 p.1.length c7) rfl (fun w h => by have q := h.2.1; go_simp) HS.out ?_
          refine tkL (i := 15) (v := .slice A8 p.2.length c8) rfl (fun w h => by have q := h.2.2; go_simp) HS.out ?_
          refine rdH (rs := [8]) ?_
          refine AllReadyH.cons rfl (fun K hK => ?_) AllReadyH.nil
          go_simp
          refine (refputb_in (W := w) E''.out (Rd.own_ HO1.out) HP1.out (by have := lenk.out; unfold Lim; omega) HB1.out.bel).mono ?_
          rintro e w4 ⟨A9, c9, rfl, ho4, hB4, hb4⟩
          have HS : Hid ((fun w' => Blk w' w.heap.size 36 #[.slice A0 m.o.reg.length c0, .slice A1 m.o.q.length c1, .slice A2 m.o.lk.length c2, .slice (some ⟨b, o, none⟩) m.o.mp.length c3, .slice At m.t.length ct] /\ w'.cell? ⟨b, o + k * 2, none⟩ = some (.slice A7 p.1.length c7) /\ w'.cell? ⟨b, o + k * 2 + 1, none⟩ = some (.slice A8 p.2.length c8)) w4) := hD ⟨HS.out.1.below hb4, (hb4.cell (p := ⟨b, o + k * 2, none⟩) hbl1.out).trans HS.out.2.1, (hb4.cell (p := ⟨b, o + k * 2 + 1, none⟩) hbl1.out).trans HS.out.2.2⟩
          have hbl2 : Hid (b < w4.heap.size) := hD (by have := hb4.size; have := hbl1.out; omega)
          have HB2 := hD (HB1.out.below hb4)
          have HO2 := hD ho4
          have HP3 := hD (HP2.out.below hb4).fit
          clear ho4 hB4 hb4 HB1 HO1 HP1 HP2
          go_simp
          refine hK.out _ _ HS.out (fun _ => ?_)
          clear hK K
          refine rdH (rs := [16]) ?_
          refine AllReadyH.cons rfl (fun K hK => ?_) AllReadyH.nil
          go_simp
          refine (refputb_in (W := w) E3'.out (Rd.own_ HO2.out) HP3.out (by have := lenk2.out; unfold Lim; omega) HB2.out.bel).mono ?_
          rintro e w5 ⟨A9, c9, rfl, ho5, hB5, hb5⟩
          have HS : Hid ((fun w' => Blk w' w.heap.size 36 #[.slice A0 m.o.reg.length c0, .slice A1 m.o.q.length c1, .slice A2 m.o.lk.length c2, .slice (some ⟨b, o, none⟩) m.o.mp.length c3, .slice At m.t.length ct] /\ w'.cell? ⟨b, o + k * 2, none⟩ = some (.slice A7 p.1.length c7) /\ w'.cell? ⟨b, o + k * 2 + 1, none⟩ = some (.slice A8 p.2.length c8)) w5) := hD ⟨HS.out.1.below hb5, (hb5.cell (p := ⟨b, o + k * 2, none⟩) hbl2.out).trans HS.out.2.1, (hb5.cell (p := ⟨b, o + k * 2 + 1, none⟩) hbl2.out).trans HS.out.2.2⟩
          go_simp
          refine hK.out _ _ HS.out (fun _ => ?_)
          clear hK K
          refine rdH (rs := [17]) ?_
          refine AllReadyH.cons rfl (fun K hK => ?_) AllReadyH.nil
          go_simp
          refine hK.out _ _ HS.out (fun _ => ?_)
          clear hK K
          refine wpAnyH_done (by kernel_rfl) ?_ _
          go_wp2_with fail
          go_roundw
          case rel => exact ⟨k + 1, A9, c9, l3', by omega, by go_num, rfl, hD ho5, hD (by rw [<- E3'.out, <- E''.out, HE.out, encP_snoc_at HX.out]; simp only [List.append_assoc]), hD (HB2.out.below hb5)⟩
          case measure => simp only [intOf]; omega
        · obtain rfl : k = m.o.mp.length := by omega
          rw [List.take_of_length_le lR] at HE
          obtain ⟨x0, x1, x2, x3, x4⟩ := five (t := 36) HBX.out.blk
          obtain ⟨l7, hl7⟩ : ∃ x, l' = x := ⟨_, rfl⟩
          rw [hl7] at HE HO |-
          clear hl7
          have HE7 := HE
          have len7 : Hid (l7.length <= 633) := hD (len_app HE7.out len6.out (by have := encP_take HM.out.o.mp.len hm8 m.o.mp.length; rwa [List.take_of_length_le lR] at this))
          obtain ⟨l8, e8⟩ : ∃ x, l7 ++ Pk.enc (Pk.held (m.t.length : Int)) = x := ⟨_, rfl⟩
          have len8 : Hid (l8.length <= 642) := hD (len_num e8 len7.out)
          have E8 := hD e8
          clear e8 HE
          go_wp2_with (first
           | (go_at_call 37; refine (refput_in (W := w) E8.out (by have := len7.out; unfold Lim; omega) (Rd.own_ HO.out) HBX.out.bel).mono ?_; rintro e w2 ⟨A6, c6, rfl, ho, hB, hb⟩; have HBX := hD (HBX.out.below hb); have HO := hD ho; clear ho hB hb x0 x1 x2 x3 x4; obtain ⟨x0, x1, x2, x3, x4⟩ := five (t := 36) HBX.out.blk)
           | fail)
          go_loopw [3, 7] (fun s3 s7 wr => ∃ (k : Nat) (A' : Option Addr) (c' : Nat) (l' : List Nat), k <= m.t.length /\ s7 = .int .i64 (k : Int) /\ s3 = .slice A' l'.length c' /\ Hid (OwnB w wr A' l'.length c' l') /\ Hid (l' = l8 ++ encT (m.t.take k)) /\ Hid (BoxM w wr w.heap.size ⟨⟨A0, c0, A1, c1, A2, c2, A3, c3⟩, At, ct⟩ m)) (fun _ s7 _ => m.t.length - (intOf s7).toNat)
          case atStart => exact ⟨0, A6, c6, l8, Nat.zero_le _, rfl, rfl, HO, hD (by simp [encT]), HBX⟩
          case round =>
           clear HBX HO x0 x1 x2 x3 x4
           obtain ⟨k, A', c', l', hk, rfl, rfl, HO, HE, HBX⟩ := hrel
           by_cases hlt : k < m.t.length
           · obtain ⟨b, o, l, A7, c7, hA, hl, y0, y1, y2, y3, y4, hrd⟩ := HBX.out.rd.t.at hlt
             have hA : At = some ⟨b, o, none⟩ := hA
             subst hA
             have HX := hD hl
             have hki : (k : Int) < (m.t.length : Int) := by omega
             have hk0 : (0 : Int) <= (k : Int) := by omega
             have hv16 : l.v.length <= 16 := (HM.out.t.each l (List.mem_of_getElem? hl)).2.1
             have hln := (HM.out.te l (List.mem_of_getElem? hl)).2.2
             have hw1 : IntKind.i64.wrap (l.n + 1) = l.n + 1 := IntWalk.i64_in _ (by omega)
             have lenk : Hid (l'.length <= 1130) := hD (len_app HE.out len8.out (encT_take (fun l hl => (HM.out.t.each l hl).2.1) ht8 k))
             obtain ⟨p1, e1⟩ : ∃ y, l' ++ Pk.enc (Pk.held l.s) = y := ⟨_, rfl⟩
             have ln1 : Hid (p1.length <= 1139) := hD (len_num e1 lenk.out)
             obtain ⟨p2, e2⟩ : ∃ y, p1 ++ Pk.enc (Pk.held l.q) = y := ⟨_, rfl⟩
             have ln2 : Hid (p2.length <= 1148) := hD (len_num e2 ln1.out)
             obtain ⟨p3, e3⟩ : ∃ y, p2 ++ Pk.enc (Pk.held l.e) = y := ⟨_, rfl⟩
             have ln3 : Hid (p3.length <= 1157) := hD (len_num e3 ln2.out)
             obtain ⟨p4, e4⟩ : ∃ y, p3 ++ Pk.enc (Pk.held (l.n + 1)) = y := ⟨_, rfl⟩
             have ln4 : Hid (p4.length <= 1166) := hD (len_num e4 ln3.out)
             obtain ⟨p5, e5⟩ : ∃ y, p4 ++ Pk.encB l.v = y := ⟨_, rfl⟩
             have Q1 := hD e1
             have Q2 := hD e2
             have Q3 := hD e3
             have Q4 := hD e4
             have Q5 := hD e5
             have HEND : Hid (p5 = l8 ++ encT (m.t.take (k + 1))) := hD (by rw [encT_snoc_at hl, <- e5, <- e4, <- e3, <- e2, <- e1, HE.out]; simp only [List.append_assoc])
             have HRD := hD hrd.fit
             clear e1 e2 e3 e4 e5 hl hrd hln
             obtain ⟨x0, x1, x2, x3, x4⟩ := five (t := 36) HBX.out.blk
             go_upto_region 22 with fail
             have hba : Below wr.heap.size wr (wr.alloc (.cells #[.int .i64 l.s, .int .i64 l.q, .int .i64 l.e, .slice A7 l.v.length c7, .int .i64 l.n] 71)) := (Below.refl _ _).alloc lR _
             have hbd := hba.drew
             have HK : Hid (Blk (wr.alloc (.cells #[.int .i64 l.s, .int .i64 l.q, .int .i64 l.e, .slice A7 l.v.length c7, .int .i64 l.n] 71)).drew wr.heap.size 71 #[.int .i64 l.s, .int .i64 l.q, .int .i64 l.e, .slice A7 l.v.length c7, .int .i64 l.n]) := hD (Blk.new _ _ _).drew
             have HB1 := hD (HBX.out.below hbd)
             have HO1 := hD (own_below HO.out hbd)
             have HP1 := hD (HRD.out.below hbd).fit
             refine wp_region_held_drew (S := fun w' => Blk w' wr.heap.size 71 #[.int .i64 l.s, .int .i64 l.q, .int .i64 l.e, .slice A7 l.v.length c7, .int .i64 l.n]) (by kernel_rfl) HK.out (fun _ => ?_)
             clear hba hbd HBX HO HRD x0 x1 x2 x3 x4 y0 y1 y2 y3 y4
             generalize (wr.alloc (.cells #[.int .i64 l.s, .int .i64 l.q, .int .i64 l.e, .slice A7 l.v.length c7, .int .i64 l.n] 71)).drew = wd at HK HB1 HO1 HP1 |-
             refine tkL (i := 0) (v := .slice A' l'.length c') rfl (fun w _ => by go_simp) HK.out ?_
             refine tkL (i := 1) (v := .pointer (some ⟨wr.heap.size, 0, none⟩)) rfl (fun w _ => by go_simp) HK.out ?_
             refine tkL (i := 4) (v := .pointer (some ⟨wr.heap.size, 1, none⟩)) rfl (fun w _ => by go_simp) HK.out ?_
             refine tkL (i := 2) (v := .int .i64 l.s) rfl (fun w h => by obtain ⟨q0, q1, q2, q3, q4⟩ := five h; go_simp) HK.out ?_
             refine tkL (i := 5) (v := .int .i64 l.q) rfl (fun w h => by obtain ⟨q0, q1, q2, q3, q4⟩ := five h; go_simp) HK.out ?_
             refine rdH (rs := [3]) ?_
             refine AllReadyH.cons rfl (fun K hK => ?_) AllReadyH.nil
             go_simp
             refine (refput_in (W := w) Q1.out (by have := lenk.out; unfold Lim; omega) (Rd.own_ HO1.out) HB1.out.bel).mono ?_
             rintro e w12 ⟨A12, c12, rfl, ho, hB, hb⟩
             have HK := hD (HK.out.below hb)
             have HB2 := hD (HB1.out.below hb)
             have HO2 := hD ho
             have HP2 := hD (HP1.out.below hb).fit
             clear ho hB hb HB1 HO1 HP1
             go_simp
             refine hK.out _ _ HK.out (fun _ => ?_)
             clear hK K
             refine rdH (rs := [6]) ?_
             refine AllReadyH.cons rfl (fun K hK => ?_) AllReadyH.nil
             go_simp
             refine (refput_in (W := w) Q2.out (by have := ln1.out; unfold Lim; omega) (Rd.own_ HO2.out) HB2.out.bel).mono ?_
             rintro e w13 ⟨A13, c13, rfl, ho, hB, hb⟩
             have HK := hD (HK.out.below hb)
             have HB3 := hD (HB2.out.below hb)
             have HO3 := hD ho
             have HP3 := hD (HP2.out.below hb).fit
             clear ho hB hb HB2 HO2 HP2
             go_simp
             refine hK.out _ _ HK.out (fun _ => ?_)
             clear hK K
             refine rdH (rs := [7]) ?_
             refine AllReadyH.cons rfl (fun K hK => ?_) AllReadyH.nil
             go_simp
             refine hK.out _ _ HK.out (fun _ => ?_)
             clear hK K
             refine wpAnyH_done (by kernel_rfl) ?_ _
             go_upto_region 23 with fail
             refine wp_region_held_drew (S := fun w' => Blk w' wr.heap.size 71 #[.int .i64 l.s, .int .i64 l.q, .int .i64 l.e, .slice A7 l.v.length c7, .int .i64 l.n]) (by kernel_rfl) HK.out.drew (fun _ => ?_)
             have hbd : Below w13.heap.size w13 w13.drew := (Below.refl _ _).drew
             have HK := hD (HK.out.below hbd)
             have HB4 := hD (HB3.out.below hbd)
             have HO4 := hD (own_below HO3.out hbd)
             have HP4 := hD (HP3.out.below hbd).fit
             clear hbd HB3 HO3 HP3
             generalize w13.drew = we at HK HB4 HO4 HP4 |-
             refine tkL (i := 0) (v := .slice A13 p2.length c13) rfl (fun w _ => by go_simp) HK.out ?_
             refine tkL (i := 1) (v := .pointer (some ⟨wr.heap.size, 2, none⟩)) rfl (fun w _ => by go_simp) HK.out ?_
             refine tkL (i := 2) (v := .pointer (some ⟨wr.heap.size, 2, none⟩)) rfl (fun w _ => by go_simp) HK.out ?_
             refine tkL (i := 5) (v := .pointer (some ⟨wr.heap.size, 2, none⟩)) rfl (fun w _ => by go_simp) HK.out ?_
             refine tkL (i := 6) (v := .pointer (some ⟨wr.heap.size, 4, none⟩)) rfl (fun w _ => by go_simp) HK.out ?_
             refine tkL (i := 10) (v := .pointer (some ⟨wr.heap.size, 2, none⟩)) rfl (fun w _ => by go_simp) HK.out ?_
             refine tkL (i := 11) (v := .pointer (some ⟨wr.heap.size, 3, none⟩)) rfl (fun w _ => by go_simp) HK.out ?_
             refine tkL (i := 3) (v := .int .i64 l.e) rfl (fun w h => by obtain ⟨q0, q1, q2, q3, q4⟩ := five h; go_simp) HK.out ?_
             refine tkL (i := 7) (v := .int .i64 l.n) rfl (fun w h => by obtain ⟨q0, q1, q2, q3, q4⟩ := five h; go_simp) HK.out ?_
             refine tkL (i := 8) (v := .int .i64 (l.n + 1)) rfl (fun w _ => by go_simp) HK.out ?_
             refine tkL (i := 12) (v := .slice A7 l.v.length c7) rfl (fun w h => by obtain ⟨q0, q1, q2, q3, q4⟩ := five h; go_simp) HK.out ?_
             refine rdH (rs := [4]) ?_
             refine AllReadyH.cons rfl (fun K hK => ?_) AllReadyH.nil
             go_simp
             refine (refput_in (W := w) Q3.out (by have := ln2.out; unfold Lim; omega) (Rd.own_ HO4.out) HB4.out.bel).mono ?_
             rintro e w15 ⟨A15, c15, rfl, ho, hB, hb⟩
             have HK := hD (HK.out.below hb)
             have HB5 := hD (HB4.out.below hb)
             have HO5 := hD ho
             have HP5 := hD (HP4.out.below hb).fit
             clear ho hB hb HB4 HO4 HP4
             go_simp
             refine hK.out _ _ HK.out (fun _ => ?_)
             clear hK K
             refine rdH (rs := [9]) ?_
             refine AllReadyH.cons rfl (fun K hK => ?_) AllReadyH.nil
             go_simp
             refine (refput_in (W := w) Q4.out (by have := ln3.out; unfold Lim; omega) (Rd.own_ HO5.out) HB5.out.bel).mono ?_
             rintro e w16 ⟨A16, c16, rfl, ho, hB, hb⟩
             have HK := hD (HK.out.below hb)
             have HB6 := hD (HB5.out.below hb)
             have HO6 := hD ho
             have HP6 := hD (HP5.out.below hb).fit
             clear ho hB hb HB5 HO5 HP5
             go_simp
             refine hK.out _ _ HK.out (fun _ => ?_)
             clear hK K
             refine rdH (rs := [13]) ?_
             refine AllReadyH.cons rfl (fun K hK => ?_) AllReadyH.nil
             go_simp
             refine (refputb_in (W := w) Q5.out (Rd.own_ HO6.out) HP6.out (by have := ln4.out; unfold Lim; omega) HB6.out.bel).mono ?_
             rintro e w17 ⟨A17, c17, rfl, ho, hB, hb⟩
             have HK := hD (HK.out.below hb)
             go_simp
             refine hK.out _ _ HK.out (fun _ => ?_)
             clear hK K
             refine rdH (rs := [14]) ?_
             refine AllReadyH.cons rfl (fun K hK => ?_) AllReadyH.nil
             go_simp
             refine hK.out _ _ HK.out (fun _ => ?_)
             clear hK K
             refine wpAnyH_done (by kernel_rfl) ?_ _
             go_wp2_with fail
             go_roundw
             case rel => exact ⟨k + 1, A17, c17, p5, by omega, by go_num, rfl, hD ho, hD (HEND.out), hD (HB6.out.below hb)⟩
             case measure => simp only [intOf]; omega
           · obtain rfl : k = m.t.length := by omega
             rw [List.take_of_length_le lR] at HE
             obtain ⟨x0, x1, x2, x3, x4⟩ := five (t := 36) HBX.out.blk
             go_wp2_with fail
             go_ret
             have he : m.enc = l' := by
              rw [HE.out, <- E8.out, HE7.out, <- E6.out, HE5.out, <- E4.out, HE3.out, <- E2.out, <- E1.out]
              unfold Mc.enc encN
              simp only [List.append_assoc]
             rw [he]
             exact ⟨A', c', rfl, HO.out, HBX.out.bel, HBX.out.bel⟩
theorem refEncode_any {W w : World} {a : MA} {m : Mc} {B : Nat} (hM : m.Ok) (h : RdM w B a m) (hB : Below W.heap.size W w) :
 Calls Tryz.prog 18 #[machV a m] w (GotIn W w m.enc) :=
 (refEncode_raw hM h).mono fun en w' ⟨A', c', h1, h2, h3, h4⟩ => ⟨A', c', h1, own_of hB.size h2, hB.trans (h3.mono hB.size), h4⟩
end Go.Proofs.YtlgpglhbbkikpaaGreat
