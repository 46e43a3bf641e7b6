/- MesgPut -/
import Derived.Test.YtlfkgpllleogoaaMT16
import Derived.Test.YtlfkgpllleogoaaMT17
import Derived.Test.YtlfkgpllleogoaaMT18
namespace Go.Proofs.Ytlfkgpllleogoaa
open Go.RowKit
set_option linter.unusedVariables false
set_option maxRecDepth 100000 in
theorem putBytesW {W w : World} {A A' : Option Addr} {n c n' c' : Nat} {l x : List Nat} (hl : l.length ≤ 100000000) (hx : x.length ≤ 10000000) (ho : OwnB W w A n c l) (hr : Rd W W.heap.size A' n' (bv x)) (hB : Below W.heap.size W w) :
    Calls Try.prog 108 #[.slice A n c, .slice A' n' c'] w (GotPut W w (l ++ Pk.encB x)) := by
  obtain rfl := own_len ho
  obtain rfl := hr.length
  have HO := Lib.hid ho
  have HB := Lib.hid hB
  have HX : Hid (∀ w, Below W.heap.size W w → Calls Try.prog 103 #[.slice none 0 0, .slice A' x.length c'] w fun e w' => ∃ A n c, e = .returned (.slice A n c) ∧ OwnB W w' A n c (Pk.encB x) ∧ Below W.heap.size W w' ∧ Below w.heap.size w w') :=
    Lib.hid (fun w hb => putb_in (W := W) (l := []) (B := 0) (n := 0) (B' := W.heap.size) (Rd.none_ _ _ _) (hr.below hb) (by unfold Lim; simp; omega) hb rfl)
  have hxl := encB_length x
  obtain ⟨y, hy⟩ : ∃ y, Pk.encB x = y := ⟨_, rfl⟩
  rw [hy] at HX hxl ⊢
  clear ho hB hy hr
  go_enter Try.func108, Try.ntmps108
  go_wp2_with (first
    | (go_at_call 103; refine (HX.out _ HB.out).mono ?_; rintro e w1 ⟨A1, n1, c1, rfl, ho1, hB1, hb1⟩; obtain rfl := own_len ho1)
    | (at_builtin
       refine wpList_append_cells (W := W) cellB (.tmp 5) (.tmp 7) rfl (by rfl) rfl (own_below HO.out hb1) rfl (Rd.own_ ho1) (bv_one _) (by omega) (by omega) hB1 ?_
       intro A3 c3 w3 hown3 hB3 hg3)
    | fail)
  go_ret
  rw [← bv_app] at hown3
  refine ⟨A3, c3, by rw [List.length_append]; rfl, by rw [List.length_append]; exact hown3, hB3, (OnlyB.of_below hb1).trans (OnlyB.grown (own_below HO.out hb1) hg3)⟩
set_option maxHeartbeats 4000000 in
set_option maxRecDepth 100000 in
theorem putEntryW_raw {w : World} {l : List Nat} {A : Option Addr} {n c B : Nat} {ca : CA} {e : En} {B' : Nat} (hl : l.length ≤ 10000) (hc : e.c.Wide) (h : Rd w B A n (bv l)) (h' : RdC w B' ca e.c) :
    Calls Try.prog 105 #[.slice A n c, entV ca e] w (GotIn w w (l ++ e.enc)) := by
  obtain rfl := h.length
  obtain ⟨wz, hwz⟩ : ∃ wz, w.alloc (.cells (entC ca e) 27) = wz := ⟨_, rfl⟩
  have hbz : Below w.heap.size w wz := by rw [← hwz]; exact (Below.refl _ _).alloc (Nat.le_refl _) _
  have hkz : Blk wz w.heap.size 27 (entC ca e) := by rw [← hwz]; exact Blk.new _ _ _
  have HR := Lib.hid ((h.fit.below hbz).fit)
  have HC := Lib.hid ((h'.fit.below hbz).fit)
  have HZ := Lib.hid hbz
  obtain ⟨g, hg⟩ : ∃ g, w.heap.size = g := ⟨_, rfl⟩
  rw [hg] at hkz
  have HF : Hid (∀ wx, Below wz.heap.size wz wx → Blk wx g 27 (entC ca e)) := Lib.hid (fun wx hb => hkz.below hb)
  have HW := Lib.hid hwz
  have HG := Lib.hid hg
  obtain ⟨zs, hzs⟩ : ∃ zs : List Int, [e.s, e.q, e.c.kind, e.c.who] = zs := ⟨_, rfl⟩
  obtain ⟨qs, hqs⟩ : ∃ qs : List (List Nat), [e.c.key, e.c.val, e.c.old] = qs := ⟨_, rfl⟩
  have hz4 : zs.length = 4 := by rw [← hzs]; rfl
  have hq3 : qs.length = 3 := by rw [← hqs]; rfl
  have hq100 : ∀ x ∈ qs, x.length ≤ 2000000 := by
    rw [← hqs]
    intro x hx
    simp only [List.mem_cons, List.not_mem_nil, or_false] at hx
    rcases hx with rfl | rfl | rfl
    · exact hc.key.1
    · exact hc.val.1
    · exact hc.old.1
  have hcells : Cells wz wz.heap.size [.slice ca.Ak e.c.key.length ca.ck, .slice ca.Av e.c.val.length ca.cv, .slice ca.Ao e.c.old.length ca.co] qs := by
    rw [← hqs]
    refine ⟨rfl, fun i x hx => ?_⟩
    match i, hx with
    | 0, hx => simp at hx; subst hx; exact ⟨_, _, rfl, HC.out.rk⟩
    | 1, hx => simp at hx; subst hx; exact ⟨_, _, rfl, HC.out.rv⟩
    | 2, hx => simp at hx; subst hx; exact ⟨_, _, rfl, HC.out.ro⟩
    | i + 3, hx => simp at hx
  have hivz : iv zs = [.int .i64 e.s, .int .i64 e.q, .int .i64 e.c.kind, .int .i64 e.c.who] := by rw [← hzs]; rfl
  have hEND : l ++ e.enc = (l ++ Pk.encs zs) ++ encQ qs := by
    rw [← hzs, ← hqs]; unfold En.enc encQ; simp [Pk.encs, List.append_assoc]
  have hqb : ∀ k, (encQ (qs.take k)).length ≤ 7000000 := by
    have hgen : ∀ ys : List (List Nat), (∀ x ∈ ys, x.length ≤ 2000000) → (encQ ys).length ≤ 2000009 * ys.length := by
      intro ys
      induction ys with
      | nil => intro _; simp [encQ]
      | cons y ys ih =>
        intro hy
        have h1 := ih fun z hz => hy z (List.mem_cons_of_mem _ hz)
        have h2 := hy y (by simp)
        have h3 := encB_length y
        unfold encQ at h1 ⊢
        rw [List.flatMap_cons, List.length_append, List.length_cons]; omega
    intro k
    have h1 := hgen (qs.take k) (fun x hx => hq100 x (List.mem_of_mem_take hx))
    have h2 : (qs.take k).length ≤ 3 := by rw [List.length_take]; omega
    omega
  rw [hEND]
  have HQ := Lib.hid hq100
  have HQB := Lib.hid hqb
  have HCL := Lib.hid hcells
  have HIV := Lib.hid hivz
  clear hzs hqs hq100 hcells hEND hqb hivz h h' hbz hkz hwz hg
  unfold entV entC
  unfold entC at HW HF
  go_enter Try.func105, Try.ntmps105
  go_upto_region 1 with fail
  rw [HG.out, HW.out]
  go_upto_region 2 with (first
    | (go_at_call 58; refine (clone_any (W := wz) (by unfold Lim; omega) HR.out (Below.refl _ _)).mono ?_; rintro en w1 ⟨A1, c1, rfl, ho1, hB1, hb1⟩; obtain ⟨x0, x1, x2, x3, x4, x5, x6⟩ := seven (HF.out w1 hB1))
    | fail)
  go_wp2_with fail
  have bb : Below w1.heap.size w1 (w1.alloc (.cells #[.int .i64 e.s, .int .i64 e.q, .int .i64 e.c.kind, .int .i64 e.c.who] 3)) := (Below.refl _ _).alloc (Nat.le_refl _) _
  have hrow : RdT (w1.alloc (.cells #[.int .i64 e.s, .int .i64 e.q, .int .i64 e.c.kind, .int .i64 e.c.who] 3)) 3 (some ⟨w1.heap.size, 0, none⟩) 4 (iv zs) :=
    ⟨by rw [iv_length, hz4], fun _ => ⟨_, 0, _, rfl, Blk.new _ _ _, fun i hi => by rw [HIV.out]; simp⟩⟩
  have HO1 := Lib.hid (own_below ho1 bb)
  have HB1 := Lib.hid (hB1.trans (bb.mono hB1.size))
  obtain ⟨P, hP⟩ : ∃ P : Option Addr, some ⟨w1.heap.size, 0, none⟩ = P := ⟨_, rfl⟩
  rw [hP] at hrow
  rw [hP]
  have HROW := Lib.hid hrow
  clear hP hrow ho1 hB1 hb1 x0 x1 x2 x3 x4 x5 x6
  generalize w1.alloc (.cells #[.int .i64 e.s, .int .i64 e.q, .int .i64 e.c.kind, .int .i64 e.c.who] 3) = wb at HO1 HB1 HROW bb ⊢
  clear bb
  go_loopw [5, 7, 24] (fun s5 s7 s24 wr => ∃ (k : Nat) (A2 : Option Addr) (c2 : Nat) (L : List Nat), k ≤ 4 ∧ s24 = .int .i64 (k : Int) ∧ s5 = .slice A2 L.length c2 ∧ Hid (L = l ++ Pk.encs (zs.take k)) ∧ Hid (OwnB wz wr A2 L.length c2 L) ∧ Hid (Below wz.heap.size wz wr) ∧ Hid (RdT wr 3 P 4 (iv zs))) (fun _ _ s24 _ => 4 - (intOf s24).toNat)
  case atStart => exact ⟨0, A1, c1, l, Nat.zero_le _, rfl, rfl, Lib.hid (by simp [Pk.encs]), HO1, HB1, HROW⟩
  case round =>
    obtain ⟨k, A2, c2, L, hk, rfl, rfl, HL, HO, HB, HT⟩ := hrel
    by_cases hlt : k < 4
    · obtain ⟨z, hz⟩ : ∃ z, zs[k]? = some z := ⟨_, List.getElem?_eq_getElem (by omega)⟩
      obtain ⟨b, o, rfl, y0⟩ := HT.out.at_ hlt (iv_at hz)
      have hLL : L.length ≤ 1000000 := by
        have h1 := Pk.encs_length (zs.take k)
        have h2 : (zs.take k).length ≤ 4 := by rw [List.length_take]; omega
        rw [HL.out, List.length_append]; omega
      have HP := Lib.hid hz
      have HCN := Lib.hid (putNum_any (W := wz) z hLL HO.out HB.out)
      obtain ⟨L', eL⟩ : ∃ y, L ++ Pk.enc (Pk.held z) = y := ⟨_, rfl⟩
      rw [eL] at HCN
      have HEL := Lib.hid eL
      clear eL hz
      go_wp2_with (first
        | (go_at_call 107; refine HCN.out.mono ?_; rintro en w4 ⟨A5, c5, rfl, ho5, hB5, hb5⟩)
        | fail)
      go_roundw
      case rel =>
        refine ⟨k + 1, A5, c5, L', by omega, by go_num, rfl, Lib.hid ?_, Lib.hid ho5, Lib.hid hB5, Lib.hid (HT.out.onlyB hb5 (by decide))⟩
        rw [← HEL.out, HL.out, take_snoc HP.out, Pk.encs_snoc]
        simp only [List.append_assoc]
      case measure => simp only [intOf]; omega
    · have hL4 : L = l ++ Pk.encs zs := by rw [HL.out, List.take_of_length_le (by omega)]
      obtain ⟨l0, e0⟩ : ∃ x, l ++ Pk.encs zs = x := ⟨_, rfl⟩
      have hl0 : l0.length ≤ 20000 := by
        have h1 := Pk.encs_length zs
        rw [← e0, List.length_append]; omega
      rw [e0] at hL4
      have HE0 := Lib.hid e0
      clear HL
      subst L
      have HLL := Lib.hid hl0
      obtain ⟨x0, x1, x2, x3, x4, x5, x6⟩ := seven (HF.out wr HB.out)
      clear e0 hl0
      go_wp2_with fail
      have bb : Below wr.heap.size wr (wr.alloc (.cells #[.slice ca.Ak e.c.key.length ca.ck, .slice ca.Av e.c.val.length ca.cv, .slice ca.Ao e.c.old.length ca.co] 22)) := (Below.refl _ _).alloc (Nat.le_refl _) _
      have hrow : RdT (wr.alloc (.cells #[.slice ca.Ak e.c.key.length ca.ck, .slice ca.Av e.c.val.length ca.cv, .slice ca.Ao e.c.old.length ca.co] 22)) 22 (some ⟨wr.heap.size, 0, none⟩) 3 [.slice ca.Ak e.c.key.length ca.ck, .slice ca.Av e.c.val.length ca.cv, .slice ca.Ao e.c.old.length ca.co] :=
        ⟨rfl, fun _ => ⟨_, 0, _, rfl, Blk.new _ _ _, fun i hi => by simp⟩⟩
      have HO1 := Lib.hid (own_below HO.out bb)
      have HB1 := Lib.hid (HB.out.trans (bb.mono HB.out.size))
      obtain ⟨P2, hP⟩ : ∃ P2 : Option Addr, some ⟨wr.heap.size, 0, none⟩ = P2 := ⟨_, rfl⟩
      rw [hP] at hrow
      rw [hP]
      have HROW2 := Lib.hid hrow
      clear hP hrow x0 x1 x2 x3 x4 x5 x6
      generalize wr.alloc (.cells #[.slice ca.Ak e.c.key.length ca.ck, .slice ca.Av e.c.val.length ca.cv, .slice ca.Ao e.c.old.length ca.co] 22) = wc at HO1 HB1 HROW2 bb ⊢
      clear bb
      go_loopw [5, 9, 43] (fun s5 s9 s43 wr => ∃ (k : Nat) (A2 : Option Addr) (c2 : Nat) (L : List Nat), k ≤ 3 ∧ s43 = .int .i64 (k : Int) ∧ s5 = .slice A2 L.length c2 ∧ Hid (L = l0 ++ encQ (qs.take k)) ∧ Hid (OwnB wz wr A2 L.length c2 L) ∧ Hid (Below wz.heap.size wz wr) ∧ Hid (RdT wr 22 P2 3 [.slice ca.Ak e.c.key.length ca.ck, .slice ca.Av e.c.val.length ca.cv, .slice ca.Ao e.c.old.length ca.co])) (fun _ _ s43 _ => 3 - (intOf s43).toNat)
      case atStart => exact ⟨0, A2, c2, l0, Nat.zero_le _, rfl, rfl, Lib.hid (by simp [encQ]), HO1, HB1, HROW2⟩
      case round =>
        clear HO1 HB1 HROW2 HO HB HT
        obtain ⟨k, A2, c2, L, hk, rfl, rfl, HL, HO, HB, HT⟩ := hrel
        by_cases hlt : k < 3
        · obtain ⟨x, hx⟩ : ∃ x, qs[k]? = some x := ⟨_, List.getElem?_eq_getElem (by omega)⟩
          obtain ⟨A3, c3, hv, hrd⟩ := HCL.out.cell k x hx
          obtain ⟨b, o, rfl, y0⟩ := HT.out.at_ hlt hv
          have hLL : L.length ≤ 100000000 := by
            have h1 := HQB.out k
            have h2 := HLL.out
            rw [HL.out, List.length_append]; omega
          have HP := Lib.hid hx
          have HCN := Lib.hid (putBytesW (W := wz) (c' := c3) hLL (Nat.le_trans (HQ.out x (List.mem_of_getElem? hx)) (by omega)) HO.out hrd HB.out)
          obtain ⟨L', eL⟩ : ∃ y, L ++ Pk.encB x = y := ⟨_, rfl⟩
          rw [eL] at HCN
          have HEL := Lib.hid eL
          clear eL hx hv hrd
          go_wp2_with (first
            | (go_at_call 108; refine HCN.out.mono ?_; rintro en w4 ⟨A5, c5, rfl, ho5, hB5, hb5⟩)
            | fail)
          go_roundw
          case rel =>
            refine ⟨k + 1, A5, c5, L', by omega, by go_num, rfl, Lib.hid ?_, Lib.hid ho5, Lib.hid hB5, Lib.hid (HT.out.onlyB hb5 (by decide))⟩
            rw [← HEL.out, HL.out, take_snoc HP.out, encQ_snoc]
            simp only [List.append_assoc]
          case measure => simp only [intOf]; omega
        · obtain rfl : k = 3 := by omega
          go_wp2_with fail
          go_ret
          have hL3 : L = l0 ++ encQ qs := by rw [HL.out, List.take_of_length_le (by omega)]
          have hb := HZ.out.trans (HB.out.mono HZ.out.size)
          rw [HE0.out, ← hL3]
          exact ⟨A2, c2, rfl, own_of HZ.out.size HO.out, hb, hb⟩
theorem putEntryW {W w : World} {l : List Nat} {A : Option Addr} {n c B : Nat} {ca : CA} {e : En} {B' : Nat} (hl : l.length ≤ 10000) (hc : e.c.Wide) (h : Rd w B A n (bv l)) (h' : RdC w B' ca e.c) (hB : Below W.heap.size W w) :
    Calls Try.prog 105 #[.slice A n c, entV ca e] w (GotIn W w (l ++ e.enc)) :=
  (putEntryW_raw hl hc h h').mono fun en w' ⟨A', c', h1, h2, h3, h4⟩ => ⟨A', c', h1, own_of hB.size h2, hB.trans (h3.mono hB.size), h4⟩
set_option maxHeartbeats 2000000 in
set_option maxRecDepth 100000 in
theorem sameCmdW (w : World) {a a' : CA} {e e' : Cm} {B B' : Nat} (hc : e.Wide) (hc' : e'.Wide) (h : RdC w B a e) (h' : RdC w B' a' e') :
    Calls Try.prog 68 #[cmdV a e, cmdV a' e'] w fun en w' => en = .returned (.bool (decide (e = e'))) ∧ Below w.heap.size w w' := by
  have b0 : Below w.heap.size w ((w.alloc (.cells #[.int .i64 e.kind, .int .i64 e.who, .slice a.Ak e.key.length a.ck, .slice a.Av e.val.length a.cv, .slice a.Ao e.old.length a.co] 25)).alloc (.cells #[.int .i64 e'.kind, .int .i64 e'.who, .slice a'.Ak e'.key.length a'.ck, .slice a'.Av e'.val.length a'.cv, .slice a'.Ao e'.old.length a'.co] 25)) := ((Below.refl _ _).alloc (Nat.le_refl _) _).alloc (by simp) _
  have HB := Lib.hid b0
  have HK := Lib.hid ((Blk.new w 25 #[.int .i64 e.kind, .int .i64 e.who, .slice a.Ak e.key.length a.ck, .slice a.Av e.val.length a.cv, .slice a.Ao e.old.length a.co]).alloc (.cells #[.int .i64 e'.kind, .int .i64 e'.who, .slice a'.Ak e'.key.length a'.ck, .slice a'.Av e'.val.length a'.cv, .slice a'.Ao e'.old.length a'.co] 25))
  have HK' := Lib.hid (Blk.new (w.alloc (.cells #[.int .i64 e.kind, .int .i64 e.who, .slice a.Ak e.key.length a.ck, .slice a.Av e.val.length a.cv, .slice a.Ao e.old.length a.co] 25)) 25 #[.int .i64 e'.kind, .int .i64 e'.who, .slice a'.Ak e'.key.length a'.ck, .slice a'.Av e'.val.length a'.cv, .slice a'.Ao e'.old.length a'.co])
  rw [World.size_alloc] at HK'
  have r := h.fit.below b0
  have r' := h'.fit.below b0
  have l1 := hc.key.1
  have l2 := hc.val.1
  have l3 := hc.old.1
  have m1 := hc'.key.1
  have m2 := hc'.val.1
  have m3 := hc'.old.1
  have E3 := Lib.hid (equal_any _ _ _ _ a.ck _ a'.ck _ _ _ _ (hc.key.2) (hc'.key.2) r.rk r'.rk)
  have E4 := Lib.hid (equal_any _ _ _ _ a.cv _ a'.cv _ _ _ _ (hc.val.2) (hc'.val.2) r.rv r'.rv)
  have E5 := Lib.hid (equal_any _ _ _ _ a.co _ a'.co _ _ _ _ (hc.old.2) (hc'.old.2) r.ro r'.ro)
  clear r r' l1 l2 l3 m1 m2 m3
  obtain ⟨D1, d1⟩ : ∃ D : Bool, decide (e.kind = e'.kind) = D := ⟨_, rfl⟩
  obtain ⟨D2, d2⟩ : ∃ D : Bool, decide (e.who = e'.who) = D := ⟨_, rfl⟩
  obtain ⟨D3, d3⟩ : ∃ D : Bool, decide (e.key = e'.key) = D := ⟨_, rfl⟩
  obtain ⟨D4, d4⟩ : ∃ D : Bool, decide (e.val = e'.val) = D := ⟨_, rfl⟩
  obtain ⟨D5, d5⟩ : ∃ D : Bool, decide (e.old = e'.old) = D := ⟨_, rfl⟩
  have HD : Hid (decide (e = e') = (D1 && (D2 && (D3 && (D4 && D5))))) := Lib.hid (by
    rw [← d1, ← d2, ← d3, ← d4, ← d5, Bool.eq_iff_iff]
    simp only [decide_eq_true_eq, Bool.and_eq_true, Cm.eq_iff])
  have r1 : (e.kind == e'.kind) = D1 := by rw [← d1, Bool.eq_iff_iff]; simp
  have r2 : (e.who == e'.who) = D2 := by rw [← d2, Bool.eq_iff_iff]; simp
  rw [HD.out]
  rw [d3] at E3
  rw [d4] at E4
  rw [d5] at E5
  clear d1 d2 d3 d4 d5 HD h h' b0 hc hc'
  unfold cmdV cmdC
  cases D1 with
  | false =>
    go_enter Try.func68, Try.ntmps68
    go_upto_region 1 with fail
    generalize (w.alloc (.cells #[.int .i64 e.kind, .int .i64 e.who, .slice a.Ak e.key.length a.ck, .slice a.Av e.val.length a.cv, .slice a.Ao e.old.length a.co] 25)).alloc (.cells #[.int .i64 e'.kind, .int .i64 e'.who, .slice a'.Ak e'.key.length a'.ck, .slice a'.Av e'.val.length a'.cv, .slice a'.Ao e'.old.length a'.co] 25) = wa at HB HK HK' E3 E4 E5 ⊢
    obtain ⟨x0, x1, x2, x3, x4⟩ := five HK.out
    obtain ⟨y0, y1, y2, y3, y4⟩ := five HK'.out
    go_wp2_with (first
      | (go_at_call 40; refine E3.out.mono ?_; rintro en w1 ⟨rfl, rfl⟩; clear E3)
      | (go_at_call 40; refine E4.out.mono ?_; rintro en w1 ⟨rfl, rfl⟩; clear E4)
      | (go_at_call 40; refine E5.out.mono ?_; rintro en w1 ⟨rfl, rfl⟩; clear E5)
      | fail)
    go_ret
    exact ⟨rfl, HB.out⟩
  | true =>
  cases D2 with
  | false =>
    go_enter Try.func68, Try.ntmps68
    go_upto_region 1 with fail
    generalize (w.alloc (.cells #[.int .i64 e.kind, .int .i64 e.who, .slice a.Ak e.key.length a.ck, .slice a.Av e.val.length a.cv, .slice a.Ao e.old.length a.co] 25)).alloc (.cells #[.int .i64 e'.kind, .int .i64 e'.who, .slice a'.Ak e'.key.length a'.ck, .slice a'.Av e'.val.length a'.cv, .slice a'.Ao e'.old.length a'.co] 25) = wa at HB HK HK' E3 E4 E5 ⊢
    obtain ⟨x0, x1, x2, x3, x4⟩ := five HK.out
    obtain ⟨y0, y1, y2, y3, y4⟩ := five HK'.out
    go_wp2_with (first
      | (go_at_call 40; refine E3.out.mono ?_; rintro en w1 ⟨rfl, rfl⟩; clear E3)
      | (go_at_call 40; refine E4.out.mono ?_; rintro en w1 ⟨rfl, rfl⟩; clear E4)
      | (go_at_call 40; refine E5.out.mono ?_; rintro en w1 ⟨rfl, rfl⟩; clear E5)
      | fail)
    go_ret
    exact ⟨rfl, HB.out⟩
  | true =>
  cases D3 with
  | false =>
    go_enter Try.func68, Try.ntmps68
    go_upto_region 1 with fail
    generalize (w.alloc (.cells #[.int .i64 e.kind, .int .i64 e.who, .slice a.Ak e.key.length a.ck, .slice a.Av e.val.length a.cv, .slice a.Ao e.old.length a.co] 25)).alloc (.cells #[.int .i64 e'.kind, .int .i64 e'.who, .slice a'.Ak e'.key.length a'.ck, .slice a'.Av e'.val.length a'.cv, .slice a'.Ao e'.old.length a'.co] 25) = wa at HB HK HK' E3 E4 E5 ⊢
    obtain ⟨x0, x1, x2, x3, x4⟩ := five HK.out
    obtain ⟨y0, y1, y2, y3, y4⟩ := five HK'.out
    go_wp2_with (first
      | (go_at_call 40; refine E3.out.mono ?_; rintro en w1 ⟨rfl, rfl⟩; clear E3)
      | (go_at_call 40; refine E4.out.mono ?_; rintro en w1 ⟨rfl, rfl⟩; clear E4)
      | (go_at_call 40; refine E5.out.mono ?_; rintro en w1 ⟨rfl, rfl⟩; clear E5)
      | fail)
    go_ret
    exact ⟨rfl, HB.out⟩
  | true =>
  cases D4 with
  | false =>
    go_enter Try.func68, Try.ntmps68
    go_upto_region 1 with fail
    generalize (w.alloc (.cells #[.int .i64 e.kind, .int .i64 e.who, .slice a.Ak e.key.length a.ck, .slice a.Av e.val.length a.cv, .slice a.Ao e.old.length a.co] 25)).alloc (.cells #[.int .i64 e'.kind, .int .i64 e'.who, .slice a'.Ak e'.key.length a'.ck, .slice a'.Av e'.val.length a'.cv, .slice a'.Ao e'.old.length a'.co] 25) = wa at HB HK HK' E3 E4 E5 ⊢
    obtain ⟨x0, x1, x2, x3, x4⟩ := five HK.out
    obtain ⟨y0, y1, y2, y3, y4⟩ := five HK'.out
    go_wp2_with (first
      | (go_at_call 40; refine E3.out.mono ?_; rintro en w1 ⟨rfl, rfl⟩; clear E3)
      | (go_at_call 40; refine E4.out.mono ?_; rintro en w1 ⟨rfl, rfl⟩; clear E4)
      | (go_at_call 40; refine E5.out.mono ?_; rintro en w1 ⟨rfl, rfl⟩; clear E5)
      | fail)
    go_ret
    exact ⟨rfl, HB.out⟩
  | true =>
  cases D5 with
  | false =>
    go_enter Try.func68, Try.ntmps68
    go_upto_region 1 with fail
    generalize (w.alloc (.cells #[.int .i64 e.kind, .int .i64 e.who, .slice a.Ak e.key.length a.ck, .slice a.Av e.val.length a.cv, .slice a.Ao e.old.length a.co] 25)).alloc (.cells #[.int .i64 e'.kind, .int .i64 e'.who, .slice a'.Ak e'.key.length a'.ck, .slice a'.Av e'.val.length a'.cv, .slice a'.Ao e'.old.length a'.co] 25) = wa at HB HK HK' E3 E4 E5 ⊢
    obtain ⟨x0, x1, x2, x3, x4⟩ := five HK.out
    obtain ⟨y0, y1, y2, y3, y4⟩ := five HK'.out
    go_wp2_with (first
      | (go_at_call 40; refine E3.out.mono ?_; rintro en w1 ⟨rfl, rfl⟩; clear E3)
      | (go_at_call 40; refine E4.out.mono ?_; rintro en w1 ⟨rfl, rfl⟩; clear E4)
      | (go_at_call 40; refine E5.out.mono ?_; rintro en w1 ⟨rfl, rfl⟩; clear E5)
      | fail)
    go_ret
    exact ⟨rfl, HB.out⟩
  | true =>
    go_enter Try.func68, Try.ntmps68
    go_upto_region 1 with fail
    generalize (w.alloc (.cells #[.int .i64 e.kind, .int .i64 e.who, .slice a.Ak e.key.length a.ck, .slice a.Av e.val.length a.cv, .slice a.Ao e.old.length a.co] 25)).alloc (.cells #[.int .i64 e'.kind, .int .i64 e'.who, .slice a'.Ak e'.key.length a'.ck, .slice a'.Av e'.val.length a'.cv, .slice a'.Ao e'.old.length a'.co] 25) = wa at HB HK HK' E3 E4 E5 ⊢
    obtain ⟨x0, x1, x2, x3, x4⟩ := five HK.out
    obtain ⟨y0, y1, y2, y3, y4⟩ := five HK'.out
    go_wp2_with (first
      | (go_at_call 40; refine E3.out.mono ?_; rintro en w1 ⟨rfl, rfl⟩; clear E3)
      | (go_at_call 40; refine E4.out.mono ?_; rintro en w1 ⟨rfl, rfl⟩; clear E4)
      | (go_at_call 40; refine E5.out.mono ?_; rintro en w1 ⟨rfl, rfl⟩; clear E5)
      | fail)
    go_ret
    exact ⟨rfl, HB.out⟩
set_option maxHeartbeats 2000000 in
set_option maxRecDepth 100000 in
theorem sameEW (w : World) {a a' : CA} {e e' : En} {B B' : Nat} (hc : e.c.Wide) (hc' : e'.c.Wide) (h : RdC w B a e.c) (h' : RdC w B' a' e'.c) :
    Calls Try.prog 42 #[entV a e, entV a' e'] w fun en w' => en = .returned (.bool (decide (e = e'))) ∧ Below w.heap.size w w' := by
  have b0 : Below w.heap.size w ((w.alloc (.cells #[.int .i64 e.s, .int .i64 e.q, .int .i64 e.c.kind, .int .i64 e.c.who, .slice a.Ak e.c.key.length a.ck, .slice a.Av e.c.val.length a.cv, .slice a.Ao e.c.old.length a.co] 27)).alloc (.cells #[.int .i64 e'.s, .int .i64 e'.q, .int .i64 e'.c.kind, .int .i64 e'.c.who, .slice a'.Ak e'.c.key.length a'.ck, .slice a'.Av e'.c.val.length a'.cv, .slice a'.Ao e'.c.old.length a'.co] 27)) := ((Below.refl _ _).alloc (Nat.le_refl _) _).alloc (by simp) _
  have HB := Lib.hid b0
  have HK := Lib.hid ((Blk.new w 27 #[.int .i64 e.s, .int .i64 e.q, .int .i64 e.c.kind, .int .i64 e.c.who, .slice a.Ak e.c.key.length a.ck, .slice a.Av e.c.val.length a.cv, .slice a.Ao e.c.old.length a.co]).alloc (.cells #[.int .i64 e'.s, .int .i64 e'.q, .int .i64 e'.c.kind, .int .i64 e'.c.who, .slice a'.Ak e'.c.key.length a'.ck, .slice a'.Av e'.c.val.length a'.cv, .slice a'.Ao e'.c.old.length a'.co] 27))
  have HK' := Lib.hid (Blk.new (w.alloc (.cells #[.int .i64 e.s, .int .i64 e.q, .int .i64 e.c.kind, .int .i64 e.c.who, .slice a.Ak e.c.key.length a.ck, .slice a.Av e.c.val.length a.cv, .slice a.Ao e.c.old.length a.co] 27)) 27 #[.int .i64 e'.s, .int .i64 e'.q, .int .i64 e'.c.kind, .int .i64 e'.c.who, .slice a'.Ak e'.c.key.length a'.ck, .slice a'.Av e'.c.val.length a'.cv, .slice a'.Ao e'.c.old.length a'.co])
  rw [World.size_alloc] at HK'
  have HC := Lib.hid (sameCmdW _ hc hc' (h.fit.below b0) (h'.fit.below b0))
  obtain ⟨D1, d1⟩ : ∃ D : Bool, decide (e.s = e'.s) = D := ⟨_, rfl⟩
  obtain ⟨D2, d2⟩ : ∃ D : Bool, decide (e.q = e'.q) = D := ⟨_, rfl⟩
  obtain ⟨D3, d3⟩ : ∃ D : Bool, decide (e.c = e'.c) = D := ⟨_, rfl⟩
  have HD : Hid (decide (e = e') = (D1 && (D2 && D3))) := Lib.hid (by
    rw [← d1, ← d2, ← d3, Bool.eq_iff_iff]
    simp only [decide_eq_true_eq, Bool.and_eq_true, En.eq_iff, Cm.eq_iff])
  have r1 : (e.s == e'.s) = D1 := by rw [← d1, Bool.eq_iff_iff]; simp
  have r2 : (e.q == e'.q) = D2 := by rw [← d2, Bool.eq_iff_iff]; simp
  rw [HD.out]
  rw [d3] at HC
  clear d1 d2 d3 HD h h' b0 hc hc'
  unfold entV entC
  unfold cmdV cmdC at HC
  cases D1 with
  | false =>
    go_enter Try.func42, Try.ntmps42
    go_upto_region 1 with fail
    generalize (w.alloc (.cells #[.int .i64 e.s, .int .i64 e.q, .int .i64 e.c.kind, .int .i64 e.c.who, .slice a.Ak e.c.key.length a.ck, .slice a.Av e.c.val.length a.cv, .slice a.Ao e.c.old.length a.co] 27)).alloc (.cells #[.int .i64 e'.s, .int .i64 e'.q, .int .i64 e'.c.kind, .int .i64 e'.c.who, .slice a'.Ak e'.c.key.length a'.ck, .slice a'.Av e'.c.val.length a'.cv, .slice a'.Ao e'.c.old.length a'.co] 27) = wa at HB HK HK' HC ⊢
    obtain ⟨x0, x1, x2, x3, x4, x5, x6⟩ := seven HK.out
    obtain ⟨y0, y1, y2, y3, y4, y5, y6⟩ := seven HK'.out
    go_wp2_with (first
      | (go_at_call 68; refine HC.out.mono ?_; rintro en w1 ⟨rfl, hb1⟩)
      | fail)
    go_ret
    exact ⟨rfl, HB.out⟩
  | true =>
  cases D2 with
  | false =>
    go_enter Try.func42, Try.ntmps42
    go_upto_region 1 with fail
    generalize (w.alloc (.cells #[.int .i64 e.s, .int .i64 e.q, .int .i64 e.c.kind, .int .i64 e.c.who, .slice a.Ak e.c.key.length a.ck, .slice a.Av e.c.val.length a.cv, .slice a.Ao e.c.old.length a.co] 27)).alloc (.cells #[.int .i64 e'.s, .int .i64 e'.q, .int .i64 e'.c.kind, .int .i64 e'.c.who, .slice a'.Ak e'.c.key.length a'.ck, .slice a'.Av e'.c.val.length a'.cv, .slice a'.Ao e'.c.old.length a'.co] 27) = wa at HB HK HK' HC ⊢
    obtain ⟨x0, x1, x2, x3, x4, x5, x6⟩ := seven HK.out
    obtain ⟨y0, y1, y2, y3, y4, y5, y6⟩ := seven HK'.out
    go_wp2_with (first
      | (go_at_call 68; refine HC.out.mono ?_; rintro en w1 ⟨rfl, hb1⟩)
      | fail)
    go_ret
    exact ⟨rfl, HB.out⟩
  | true =>
    go_enter Try.func42, Try.ntmps42
    go_upto_region 1 with fail
    generalize (w.alloc (.cells #[.int .i64 e.s, .int .i64 e.q, .int .i64 e.c.kind, .int .i64 e.c.who, .slice a.Ak e.c.key.length a.ck, .slice a.Av e.c.val.length a.cv, .slice a.Ao e.c.old.length a.co] 27)).alloc (.cells #[.int .i64 e'.s, .int .i64 e'.q, .int .i64 e'.c.kind, .int .i64 e'.c.who, .slice a'.Ak e'.c.key.length a'.ck, .slice a'.Av e'.c.val.length a'.cv, .slice a'.Ao e'.c.old.length a'.co] 27) = wa at HB HK HK' HC ⊢
    obtain ⟨x0, x1, x2, x3, x4, x5, x6⟩ := seven HK.out
    obtain ⟨y0, y1, y2, y3, y4, y5, y6⟩ := seven HK'.out
    go_wp2_with (first
      | (go_at_call 68; refine HC.out.mono ?_; rintro en w1 ⟨rfl, hb1⟩)
      | fail)
    go_ret
    exact ⟨rfl, HB.out.trans (hb1.mono HB.out.size)⟩
set_option maxHeartbeats 8000000 in
set_option maxRecDepth 100000 in
theorem refSameEntryW (w : World) {ca ca' : CA} {e e' : En} {B B' : Nat} (hc : e.c.Wide) (hc' : e'.c.Wide) (h : RdC w B ca e.c) (h' : RdC w B' ca' e'.c) :
    Calls Try.prog 44 #[entV ca e, entV ca' e'] w fun en w' => en = .returned (.bool (decide (e = e'))) ∧ Below w.heap.size w w' := by
  obtain ⟨Ak, Akc, Av, Avc, Ao, Aoc⟩ := ca
  obtain ⟨Dk, Dkc, Dv, Dvc, Do, Doc⟩ := ca'
  have b0 : Below w.heap.size w ((w.alloc (.cells #[.int .i64 e.s, .int .i64 e.q, .int .i64 e.c.kind, .int .i64 e.c.who, .slice Ak e.c.key.length Akc, .slice Av e.c.val.length Avc, .slice Ao e.c.old.length Aoc] 27)).alloc (.cells #[.int .i64 e'.s, .int .i64 e'.q, .int .i64 e'.c.kind, .int .i64 e'.c.who, .slice Dk e'.c.key.length Dkc, .slice Dv e'.c.val.length Dvc, .slice Do e'.c.old.length Doc] 27)) := ((Below.refl _ _).alloc (Nat.le_refl _) _).alloc (by simp) _
  have HB := Lib.hid b0
  have p1 := str_of (c := Akc) (h.rk.fit.below b0)
  have p2 := str_of (c := Dkc) (h'.rk.fit.below b0)
  have p3 := str_of (c := Avc) (h.rv.fit.below b0)
  have p4 := str_of (c := Dvc) (h'.rv.fit.below b0)
  have p5 := str_of (c := Aoc) (h.ro.fit.below b0)
  have p6 := str_of (c := Doc) (h'.ro.fit.below b0)
  have Q1 := Lib.hid (strL_eq hc.key.2 hc'.key.2)
  have Q2 := Lib.hid (strL_eq hc.val.2 hc'.val.2)
  have Q3 := Lib.hid (strL_eq hc.old.2 hc'.old.2)
  have HK := Lib.hid ((Blk.new w 27 #[.int .i64 e.s, .int .i64 e.q, .int .i64 e.c.kind, .int .i64 e.c.who, .slice Ak e.c.key.length Akc, .slice Av e.c.val.length Avc, .slice Ao e.c.old.length Aoc]).alloc (.cells #[.int .i64 e'.s, .int .i64 e'.q, .int .i64 e'.c.kind, .int .i64 e'.c.who, .slice Dk e'.c.key.length Dkc, .slice Dv e'.c.val.length Dvc, .slice Do e'.c.old.length Doc] 27))
  have HK' := Lib.hid (Blk.new (w.alloc (.cells #[.int .i64 e.s, .int .i64 e.q, .int .i64 e.c.kind, .int .i64 e.c.who, .slice Ak e.c.key.length Akc, .slice Av e.c.val.length Avc, .slice Ao e.c.old.length Aoc] 27)) 27 #[.int .i64 e'.s, .int .i64 e'.q, .int .i64 e'.c.kind, .int .i64 e'.c.who, .slice Dk e'.c.key.length Dkc, .slice Dv e'.c.val.length Dvc, .slice Do e'.c.old.length Doc])
  rw [World.size_alloc] at HK'
  clear h h' b0 hc hc'
  obtain ⟨D, hD⟩ : ∃ D, decide (e = e') = D := ⟨_, rfl⟩
  rw [hD]
  have hyes : e.s = e'.s → e.q = e'.q → e.c.kind = e'.c.kind → e.c.who = e'.c.who → e.c.key = e'.c.key → e.c.val = e'.c.val → e.c.old = e'.c.old → D = true := fun h1 h2 h3 h4 h5 h6 h7 => by rw [← hD]; exact decide_eq_true ((En.eq_iff _ _).2 ⟨h1, h2, h3, h4, h5, h6, h7⟩)
  have hno : e ≠ e' → D = false := fun h => by rw [← hD]; exact decide_eq_false h
  clear hD
  unfold entV entC
  simp only
  obtain ⟨es, eq, ⟨ekind, ewho, ekey, eval, eold⟩⟩ := e
  obtain ⟨fs, fq, ⟨fkind, fwho, fkey, fval, fold⟩⟩ := e'
  simp only at *
  obtain ⟨wa, hwa⟩ : ∃ x, (w.alloc (.cells #[.int .i64 es, .int .i64 eq, .int .i64 ekind, .int .i64 ewho, .slice Ak ekey.length Akc, .slice Av eval.length Avc, .slice Ao eold.length Aoc] 27)).alloc (.cells #[.int .i64 fs, .int .i64 fq, .int .i64 fkind, .int .i64 fwho, .slice Dk fkey.length Dkc, .slice Dv fval.length Dvc, .slice Do fold.length Doc] 27) = x := ⟨_, rfl⟩
  rw [hwa] at p1 p2 p3 p4 p5 p6 HB HK HK'
  obtain ⟨x0, x1, x2, x3, x4, x5, x6⟩ := seven HK.out
  obtain ⟨y0, y1, y2, y3, y4, y5, y6⟩ := seven HK'.out
  have HW := Lib.hid hwa
  have HYES := Lib.hid hyes
  have HNO := Lib.hid hno
  clear hwa hyes hno
  by_cases h0 : es = fs
  · have b0 : (es == fs) = true := by simpa using h0
    by_cases h1 : eq = fq
    · have b1 : (eq == fq) = true := by simpa using h1
      by_cases h2 : ekind = fkind
      · have b2 : (ekind == fkind) = true := by simpa using h2
        by_cases h3 : ewho = fwho
        · have b3 : (ewho == fwho) = true := by simpa using h3
          by_cases h4 : ekey = fkey
          · have b4 : ((strB ekey).toList == (strB fkey).toList) = true := by rw [Q1.out]; exact decide_eq_true h4
            have g4 : (strB ekey == strB fkey) = true := by rw [h4]; exact strB_self _
            by_cases h5 : eval = fval
            · have b5 : ((strB eval).toList == (strB fval).toList) = true := by rw [Q2.out]; exact decide_eq_true h5
              have g5 : (strB eval == strB fval) = true := by rw [h5]; exact strB_self _
              by_cases h6 : eold = fold
              · have b6 : ((strB eold).toList == (strB fold).toList) = true := by rw [Q3.out]; exact decide_eq_true h6
                have g6 : (strB eold == strB fold) = true := by rw [h6]; exact strB_self _
                have hd := HYES.out h0 h1 h2 h3 h4 h5 h6
                subst hd
                clear h0 h1 h2 h3 h4 h5 h6
                go_enter Try.func44, Try.ntmps44
                go_upto_region 1 with fail
                rw [HW.out]
                go_wp2_with fail
                go_ret
                exact ⟨rfl, HB.out⟩
              · have hd := HNO.out (fun h => h6 ((En.eq_iff _ _).1 h).2.2.2.2.2.2)
                subst hd
                have b6 : ((strB eold).toList == (strB fold).toList) = false := by rw [Q3.out]; exact decide_eq_false h6
                have g6 : (strB eold == strB fold) = false := by rw [← Bool.not_eq_true]; intro h; rw [ba_beq, decide_eq_true_iff] at h; rw [h] at b6; simp at b6
                clear h0 h1 h2 h3 h4 h5 h6
                go_enter Try.func44, Try.ntmps44
                go_upto_region 1 with fail
                rw [HW.out]
                go_wp2_with fail
                go_ret
                exact ⟨rfl, HB.out⟩
            · have hd := HNO.out (fun h => h5 ((En.eq_iff _ _).1 h).2.2.2.2.2.1)
              subst hd
              have b5 : ((strB eval).toList == (strB fval).toList) = false := by rw [Q2.out]; exact decide_eq_false h5
              have g5 : (strB eval == strB fval) = false := by rw [← Bool.not_eq_true]; intro h; rw [ba_beq, decide_eq_true_iff] at h; rw [h] at b5; simp at b5
              clear h0 h1 h2 h3 h4 h5
              go_enter Try.func44, Try.ntmps44
              go_upto_region 1 with fail
              rw [HW.out]
              go_wp2_with fail
              go_ret
              exact ⟨rfl, HB.out⟩
          · have hd := HNO.out (fun h => h4 ((En.eq_iff _ _).1 h).2.2.2.2.1)
            subst hd
            have b4 : ((strB ekey).toList == (strB fkey).toList) = false := by rw [Q1.out]; exact decide_eq_false h4
            have g4 : (strB ekey == strB fkey) = false := by rw [← Bool.not_eq_true]; intro h; rw [ba_beq, decide_eq_true_iff] at h; rw [h] at b4; simp at b4
            clear h0 h1 h2 h3 h4
            go_enter Try.func44, Try.ntmps44
            go_upto_region 1 with fail
            rw [HW.out]
            go_wp2_with fail
            go_ret
            exact ⟨rfl, HB.out⟩
        · have hd := HNO.out (fun h => h3 ((En.eq_iff _ _).1 h).2.2.2.1)
          subst hd
          have b3 : (ewho == fwho) = false := by simpa using h3
          clear h0 h1 h2 h3
          go_enter Try.func44, Try.ntmps44
          go_upto_region 1 with fail
          rw [HW.out]
          go_wp2_with fail
          go_ret
          exact ⟨rfl, HB.out⟩
      · have hd := HNO.out (fun h => h2 ((En.eq_iff _ _).1 h).2.2.1)
        subst hd
        have b2 : (ekind == fkind) = false := by simpa using h2
        clear h0 h1 h2
        go_enter Try.func44, Try.ntmps44
        go_upto_region 1 with fail
        rw [HW.out]
        go_wp2_with fail
        go_ret
        exact ⟨rfl, HB.out⟩
    · have hd := HNO.out (fun h => h1 ((En.eq_iff _ _).1 h).2.1)
      subst hd
      have b1 : (eq == fq) = false := by simpa using h1
      clear h0 h1
      go_enter Try.func44, Try.ntmps44
      go_upto_region 1 with fail
      rw [HW.out]
      go_wp2_with fail
      go_ret
      exact ⟨rfl, HB.out⟩
  · have hd := HNO.out (fun h => h0 ((En.eq_iff _ _).1 h).1)
    subst hd
    have b0 : (es == fs) = false := by simpa using h0
    clear h0
    go_enter Try.func44, Try.ntmps44
    go_upto_region 1 with fail
    rw [HW.out]
    go_wp2_with fail
    go_ret
    exact ⟨rfl, HB.out⟩
end Go.Proofs.Ytlfkgpllleogoaa

