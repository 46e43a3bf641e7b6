/- MesgW3 -/
import Derived.Test.YtlfkgpllleogoaaMT21
import Derived.Test.YtlfkgpllleogoaaMT22
namespace Go.Proofs.Ytlfkgpllleogoaa
open Go.RowKit
set_option linter.unusedVariables false
theorem En.enc_lt {e : En} (h : e.c.Wide) : ∀ x ∈ e.enc, x < 256 := by
  intro x hx
  unfold En.enc at hx
  simp only [List.mem_append] at hx
  have hb : ∀ {l : List Nat}, (l.length ≤ 2000000 ∧ ∀ y ∈ l, y < 256) → ∀ x ∈ Pk.encB l, x < 256 := fun h => Pk.encB_lt h.2 (by have := h.1; unfold Pk.top; omega)
  rcases hx with h3 | h3 | h3 | h3 | h3 | h3 | h3
  · exact Pk.enc_lt (Pk.held_le _) x h3
  · exact Pk.enc_lt (Pk.held_le _) x h3
  · exact Pk.enc_lt (Pk.held_le _) x h3
  · exact Pk.enc_lt (Pk.held_le _) x h3
  · exact hb h.key x h3
  · exact hb h.val x h3
  · exact hb h.old x h3
theorem En.enc_len (e : En) : e.enc.length ≤ 63 + e.c.key.length + e.c.val.length + e.c.old.length := by
  have k1 := (Pk.enc_length (Pk.held e.s)).2
  have k2 := (Pk.enc_length (Pk.held e.q)).2
  have k3 := (Pk.enc_length (Pk.held e.c.kind)).2
  have k4 := (Pk.enc_length (Pk.held e.c.who)).2
  have k5 := encB_length e.c.key
  have k6 := encB_length e.c.val
  have k7 := encB_length e.c.old
  unfold En.enc
  simp only [List.length_append]
  omega
theorem En.ok_len {e : En} (h : e.ok = true) : e.enc.length ≤ 200 := by
  have := En.enc_len e
  unfold En.ok at h
  simp only [Bool.and_eq_true, decide_eq_true_eq] at h
  omega
/-- it may be told, just if it can be read again -/
theorem En.back {e : En} (h : e.c.Wide) : decide (En.read (some e.enc) = e) = e.ok := by
  cases hk : e.ok with
  | true =>
    have := En.read_enc hk []
    rw [List.append_nil] at this
    rw [this]; simp
  | false =>
    rw [decide_eq_false_iff_not]
    intro he
    have hs : (En.read (some e.enc)).ok = true := by
      unfold En.read
      split
      · rfl
      · rename_i hn
        cases hg : (En.get (some e.enc)).2 with
        | none => exact absurd hg hn
        | some l' => exact (En.get_canon (fun l hl => by injection hl with hl; subst hl; exact En.enc_lt h) hg).2
    rw [he, hk] at hs
    cases hs
theorem En.read_wide {s : Pk.St} (h : BytesSt s) : (En.read s).c.Wide := Cm.Fits.wide (En.read_fits h).1
theorem WrP.pre {W w w1 w2 : World} {b d : Nat} {L : List Nat} {f ok : Bool} {X : List Nat} (hb : Below w.heap.size w w1) (h : WrP W w1 b L f ok X d w2) : WrP W w b L f ok X d w2 := by
  obtain ⟨L', f', h1, h2, h3, h4, h5⟩ := h
  exact ⟨L', f', h1, only_trans (only_below (only_refl b w) hb (Nat.le_refl _)) h2, h3, h4, h5⟩
theorem WrP.set {W w wx : World} {b d g i : Nat} {L : List Nat} {f ok : Bool} {X : List Nat} {t : TypeId} {cs : Array Value} {u : Value} (h : WrP W w b L f ok X d wx) (hk : Blk wx g t cs) (h1 : 5 ≠ t) (hne : b ≠ g) (hg : w.heap.size ≤ g) (hW : W.heap.size ≤ g) : WrP W w b L f ok X d (wx.setCell ⟨g, i, none⟩ u) := by
  obtain ⟨L', f', k1, k2, k3, k4, k5⟩ := h
  exact ⟨L', f', k1.set hk h1 hne hW, only_below k2 ((Below.refl w.heap.size wx).setCell (p := ⟨g, i, none⟩) hg u) (Nat.le_refl _), k3, k4, k5⟩
set_option maxHeartbeats 4000000 in
set_option maxRecDepth 100000 in
theorem wentry_any {W w : World} {b : Nat} {L : List Nat} {f : Bool} {ca : CA} {e : En} (h : WrAt W w b L f) (hl : L.length ≤ 10000) (hc : e.c.Wide) (hr : RdC W W.heap.size ca e.c) :
    Calls Try.prog 100 #[.pointer (some ⟨b, 0, none⟩), entV ca e] w fun en w' => (∃ ca' e', en = .returned (entV ca' e')) ∧ WrP W w b L f e.ok e.enc 200 w' := by
  obtain ⟨wz, hwz⟩ : ∃ wz, (w.alloc (.cells #[.int .i64 e.s, .int .i64 e.q, .int .i64 e.c.kind, .int .i64 e.c.who, .slice ca.Ak e.c.key.length ca.ck, .slice ca.Av e.c.val.length ca.cv, .slice ca.Ao e.c.old.length ca.co] 27)).alloc (.cells #[.int .i64 0, .int .i64 0, .int .i64 0, .int .i64 0, .slice none 0 0, .slice none 0 0, .slice none 0 0] 27) = wz := ⟨_, rfl⟩
  have hbz : Below w.heap.size w wz := by rw [← hwz]; exact ((Below.refl _ _).alloc (Nat.le_refl _) _).alloc (by rw [World.size_alloc]; omega) _
  obtain ⟨g, hg⟩ : ∃ g, w.heap.size = g := ⟨_, rfl⟩
  have hk3 : Blk wz g 27 #[.int .i64 e.s, .int .i64 e.q, .int .i64 e.c.kind, .int .i64 e.c.who, .slice ca.Ak e.c.key.length ca.ck, .slice ca.Av e.c.val.length ca.cv, .slice ca.Ao e.c.old.length ca.co] := by rw [← hwz, ← hg]; exact (Blk.new _ _ _).alloc _
  have hk4 : Blk wz (g + 1) 27 #[.int .i64 0, .int .i64 0, .int .i64 0, .int .i64 0, .slice none 0 0, .slice none 0 0, .slice none 0 0] := by rw [← hwz, ← hg]; have := Blk.new (w.alloc (.cells #[.int .i64 e.s, .int .i64 e.q, .int .i64 e.c.kind, .int .i64 e.c.who, .slice ca.Ak e.c.key.length ca.ck, .slice ca.Av e.c.val.length ca.cv, .slice ca.Ao e.c.old.length ca.co] 27)) 27 #[.int .i64 0, .int .i64 0, .int .i64 0, .int .i64 0, .slice none 0 0, .slice none 0 0, .slice none 0 0]; rwa [World.size_alloc] at this
  have hbg : b < g := by rw [← hg]; exact h.lt
  have hWg : W.heap.size ≤ g := by obtain ⟨_, _, _, _, _, q⟩ := h; omega
  have hzg : g + 2 ≤ wz.heap.size := by have := hk4.lt; omega
  have HWR : Hid (WrAt W wz b L f) := Lib.hid (h.below hbz)
  have hBW : Below W.heap.size W wz := by obtain ⟨_, _, _, _, q, _⟩ := HWR.out; exact q
  have HF : Hid (∀ wx, Below wz.heap.size wz wx → Blk wx g 27 #[.int .i64 e.s, .int .i64 e.q, .int .i64 e.c.kind, .int .i64 e.c.who, .slice ca.Ak e.c.key.length ca.ck, .slice ca.Av e.c.val.length ca.cv, .slice ca.Ao e.c.old.length ca.co]) := Lib.hid (fun wx hb => hk3.below hb)
  have HK4 := Lib.hid hk4
  have HBZ := Lib.hid hbz
  have HWZ := Lib.hid hwz
  have HG := Lib.hid hg
  have hel := En.enc_len e
  have hk := hc.key.1
  have hv := hc.val.1
  have ho := hc.old.1
  have hcr : ∀ wx, Below wz.heap.size wz wx → RdC wx W.heap.size ca e.c := fun wx hb => hr.below (hBW.trans (hb.mono hBW.size))
  obtain ⟨l, hle⟩ : ∃ l, e.enc = l := ⟨_, rfl⟩
  have hlb : ∀ x ∈ l, x < 256 := by rw [← hle]; exact En.enc_lt hc
  have hll : l.length ≤ 7000000 := by rw [← hle]; omega
  have C1 : Hid (∀ wx, Below wz.heap.size wz wx → Calls Try.prog 105 #[.slice none 0 0, .agg #[.int .i64 e.s, .int .i64 e.q, .int .i64 e.c.kind, .int .i64 e.c.who, .slice ca.Ak e.c.key.length ca.ck, .slice ca.Av e.c.val.length ca.cv, .slice ca.Ao e.c.old.length ca.co]] wx (GotIn wz wx l)) := Lib.hid (fun wx hb => by
    have q := putEntryW (W := wz) (l := []) (A := none) (n := 0) (c := 0) (B := 0) (by simp) hc (Rd.none_ _ _ _) (hcr wx hb) hb
    rw [List.nil_append, hle] at q
    exact q)
  have C2 : Hid (∀ wx A n c B, Rd wx B A n (bv l) → Below wz.heap.size wz wx → Calls Try.prog 45 #[.slice A n c] wx fun e w' => ∃ b, e = .returned (.pointer (some ⟨b, 0, none⟩)) ∧ RdrAt w' b (some l) ∧ wz.heap.size ≤ b ∧ wx.heap.size ≤ b ∧ Below wz.heap.size wz w' ∧ Below wx.heap.size wx w') := Lib.hid (fun wx A n c B hrd hb => by
    have hn := hrd.length
    exact read_in (W := wz) (by unfold Lim; omega) hlb hrd hb)
  obtain ⟨e2, he2⟩ : ∃ e2, En.read (some l) = e2 := ⟨_, rfl⟩
  have h2w : e2.c.Wide := by rw [← he2]; exact En.read_wide (fun l' hl' => by injection hl' with hl'; subst hl'; exact hlb)
  have hdec : decide (e2 = e) = e.ok := by rw [← he2, ← hle]; exact En.back hc
  have C3 : Hid (∀ wx b3, RdrAt wx b3 (some l) → Calls Try.prog 104 #[.pointer (some ⟨b3, 0, none⟩)] wx fun en w' => ∃ ca, en = .returned (entV ca e2) ∧ OwnC wx w' ca e2.c ∧ Only b3 wx w') := Lib.hid (fun wx b3 hq => (getEntry_any wx b3 _ hq).mono fun en w' ⟨ca3, q1, q2, q3, q4⟩ => by rw [he2] at q1 q2; exact ⟨ca3, q1, q2, q4⟩)
  have C4 : Hid (∀ wx ca2 B, RdC wx B ca2 e2.c → Below wz.heap.size wz wx → Calls Try.prog 42 #[.agg #[.int .i64 e2.s, .int .i64 e2.q, .int .i64 e2.c.kind, .int .i64 e2.c.who, .slice ca2.Ak e2.c.key.length ca2.ck, .slice ca2.Av e2.c.val.length ca2.cv, .slice ca2.Ao e2.c.old.length ca2.co], .agg #[.int .i64 e.s, .int .i64 e.q, .int .i64 e.c.kind, .int .i64 e.c.who, .slice ca.Ak e.c.key.length ca.ck, .slice ca.Av e.c.val.length ca.cv, .slice ca.Ao e.c.old.length ca.co]] wx fun en w' => en = .returned (.bool e.ok) ∧ Below wx.heap.size wx w') := Lib.hid (fun wx ca2 B hq hb => by rw [← hdec]; exact sameEW wx h2w hc hq (hcr wx hb))
  obtain ⟨ok, hok⟩ : ∃ x, e.ok = x := ⟨_, rfl⟩
  rw [hok] at C4 ⊢
  obtain ⟨L2, hL2⟩ : ∃ x, L ++ l = x := ⟨_, rfl⟩
  have HEL := Lib.hid hL2
  have C5 : ok = true → Hid (∀ wx A n c B, Rd wx B A n (bv L) → Below wz.heap.size wz wx → Calls Try.prog 105 #[.slice A n c, .agg #[.int .i64 e.s, .int .i64 e.q, .int .i64 e.c.kind, .int .i64 e.c.who, .slice ca.Ak e.c.key.length ca.ck, .slice ca.Av e.c.val.length ca.cv, .slice ca.Ao e.c.old.length ca.co]] wx (GotIn W wx L2)) := fun _ => Lib.hid (fun wx A n c B hq hb => by
    have q := putEntryW (W := W) (l := L) (c := c) hl hc hq (hcr wx hb) (hBW.trans (hb.mono hBW.size))
    rw [hle, hL2] at q
    exact q)
  have HL2 : ok = true → l.length ≤ 200 := fun hk => by rw [← hle]; exact En.ok_len (hok.trans hk)
  have HL2 := Lib.hid HL2
  rw [hle]
  clear h hr hbz hk3 hk4 hwz hg hBW hel hk hv ho hcr hle hlb hll he2 h2w hdec hok hl hc hL2
  unfold entV entC
  unfold entV entC at C3
  go_enter Try.func100, Try.ntmps100
  go_upto_region 1 with fail
  rw [HG.out, HWZ.out]
  have hS0 : Below wz.heap.size wz wz.drew := (Below.refl _ _).drew
  refine wp_region_held_drew (S := fun w' => Below wz.heap.size wz w') (by kernel_rfl) hS0 (fun _ => ?_)
  have hS := Lib.hid hS0
  clear hS0
  generalize wz.drew = q0 at hS ⊢
  refine wpAnyH_take (i := 0) (v := .agg #[.int .i64 e.s, .int .i64 e.q, .int .i64 e.c.kind, .int .i64 e.c.who, .slice ca.Ak e.c.key.length ca.ck, .slice ca.Av e.c.val.length ca.cv, .slice ca.Ao e.c.old.length ca.co]) rfl (by kernel_rfl) (by kernel_rfl) (by kernel_rfl) (fun _ _ _ h => h) (Or.inl ⟨by kernel_rfl, fun w h => by obtain ⟨q0, q1, q2, q3, q4, q5, q6⟩ := seven (HF.out w h); go_simp⟩) hS.out ?_
  refine wpAnyH_take (i := 4) (v := .agg #[.int .i64 e.s, .int .i64 e.q, .int .i64 e.c.kind, .int .i64 e.c.who, .slice ca.Ak e.c.key.length ca.ck, .slice ca.Av e.c.val.length ca.cv, .slice ca.Ao e.c.old.length ca.co]) rfl (by kernel_rfl) (by kernel_rfl) (by kernel_rfl) (fun _ _ _ h => h) (Or.inl ⟨by kernel_rfl, fun w h => by obtain ⟨q0, q1, q2, q3, q4, q5, q6⟩ := seven (HF.out w h); go_simp⟩) hS.out ?_
  refine wpAnyH_ready (rs := [1]) (by kernel_rfl) (by simp) ?_
  refine AllReadyH.cons rfl (fun K hK => ?_) AllReadyH.nil
  go_simp
  refine (C1.out _ hS.out).mono ?_
  rintro en w1 ⟨A1, c1, rfl, ho1, hB1, hb1⟩
  have hS := Lib.hid hB1
  have HO1 := Lib.hid ho1
  clear hB1 hb1 ho1
  go_simp
  refine hK.out _ _ hS.out (fun _ => ?_)
  clear hK K
  refine wpAnyH_ready (rs := [2]) (by kernel_rfl) (by simp) ?_
  refine AllReadyH.cons rfl (fun K hK => ?_) AllReadyH.nil
  go_simp
  refine (C2.out _ _ _ c1 _ (Rd.own_ HO1.out) hS.out).mono ?_
  rintro en w2 ⟨b3, rfl, hr2, hb3, hb3', hB2, hb2⟩
  have hS := Lib.hid hB2
  have HR2 := Lib.hid hr2
  clear hB2 hb2 hr2 HO1
  go_simp
  refine hK.out _ _ hS.out (fun _ => ?_)
  clear hK K
  refine wpAnyH_ready (rs := [3]) (by kernel_rfl) (by simp) ?_
  refine AllReadyH.cons rfl (fun K hK => ?_) AllReadyH.nil
  go_simp
  refine (C3.out _ _ HR2.out).mono ?_
  rintro en w3 ⟨ca2, rfl, hq3, ho3⟩
  have hS := Lib.hid (below_only hS.out ho3 hb3)
  have HQ3 := Lib.hid hq3.rd
  clear hq3 ho3 HR2
  go_simp
  refine hK.out _ _ hS.out (fun _ => ?_)
  clear hK K
  refine wpAnyH_ready (rs := [5]) (by kernel_rfl) (by simp) ?_
  refine AllReadyH.cons rfl (fun K hK => ?_) AllReadyH.nil
  go_simp
  refine (C4.out _ _ _ HQ3.out hS.out).mono ?_
  rintro en w4 ⟨rfl, hb4⟩
  have hS := Lib.hid (hS.out.trans (hb4.mono hS.out.size))
  clear hb4 HQ3
  go_simp
  refine hK.out _ _ hS.out (fun _ => ?_)
  clear hK K
  refine wpAnyH_take (i := 6) (v := .bool (!ok)) rfl (by kernel_rfl) (by kernel_rfl) (by kernel_rfl) (fun _ _ _ h => h) (Or.inl ⟨by kernel_rfl, fun w _ => by go_simp⟩) hS.out ?_
  refine wpAnyH_done (by kernel_rfl) ?_ _
  cases ok with
  | false =>
    have hW4 := HWR.out.below hS.out
    have HP := Lib.hid (WrP.no (d := 200) (X := l) hW4 (ok := false) rfl)
    have HK := Lib.hid (HK4.out.below hS.out)
    obtain ⟨A, c, k1, k2, k3, k4⟩ := hW4
    have x1 : w4.cell? ⟨b, 1, none⟩ = some (.bool f) := k1.cell 1
    have f1 := k1.frozen 1
    have HK5 := Lib.hid (HK.out.set_other (i := 1) (u := .bool true) (b := b) (by omega))
    obtain ⟨y0, y1, y2, y3, y4, y5, y6⟩ := seven HK5.out
    have z0 := HK5.out.frozen 0
    have z1 := HK5.out.frozen 1
    have z2 := HK5.out.frozen 2
    have z3 := HK5.out.frozen 3
    have z4 := HK5.out.frozen 4
    have z5 := HK5.out.frozen 5
    have z6 := HK5.out.frozen 6
    clear k1 k2 k3 k4
    go_wp2_with fail
    have q0 := HK5.out
    have q1 := q0.set_ 0 (.int .i64 0)
    have q2 := q1.set_ 1 (.int .i64 0)
    have q3 := q2.set_ 2 (.int .i64 0)
    have q4 := q3.set_ 3 (.int .i64 0)
    have q5 := q4.set_ 4 (.slice none 0 0)
    have q6 := q5.set_ 5 (.slice none 0 0)
    have q7 := q6.set_ 6 (.slice none 0 0)
    refine bodyPost_ret (results_cell_row rfl _ _ _ _ _ _ _ rfl q7 Try.underlying27 rfl (by kernel_rfl)) rfl ?_
    refine ⟨⟨⟨none, 0, none, 0, none, 0⟩, ⟨0, 0, ⟨0, 0, [], [], []⟩⟩, rfl⟩, ?_⟩
    have hS4 := hS.out
    have hP0 := WrP.pre (HBZ.out.trans (hS4.mono HBZ.out.size)) HP.out
    exact (((((((hP0).set q0 (by decide) (by omega) (by have := HG.out; omega) (by omega)).set q1 (by decide) (by omega) (by have := HG.out; omega) (by omega)).set q2 (by decide) (by omega) (by have := HG.out; omega) (by omega)).set q3 (by decide) (by omega) (by have := HG.out; omega) (by omega)).set q4 (by decide) (by omega) (by have := HG.out; omega) (by omega)).set q5 (by decide) (by omega) (by have := HG.out; omega) (by omega)).set q6 (by decide) (by omega) (by have := HG.out; omega) (by omega)
  | true =>
    have C6 := C5 rfl
    clear C5
    have hW4 := HWR.out.below hS.out
    obtain ⟨A, c, k1, k2, k3, k4⟩ := HWR.out
    have HKB := Lib.hid (k1.below hS.out)
    have HLR := Lib.hid (Rd.own_ (own_below k2 hS.out))
    have HW4 := Lib.hid hW4
    have HK := Lib.hid (HK4.out.below hS.out)
    clear k1 k2 k3 k4 hW4
    go_upto_region 4 with fail
    have hS4g : Blk w4.drew g 27 #[.int .i64 e.s, .int .i64 e.q, .int .i64 e.c.kind, .int .i64 e.c.who, .slice ca.Ak e.c.key.length ca.ck, .slice ca.Av e.c.val.length ca.cv, .slice ca.Ao e.c.old.length ca.co] := (HF.out w4 hS.out).below (Below.refl _ _).drew
    have hT := Lib.hid ((Below.refl w4.heap.size w4).drew)
    refine wp_region_held_drew (S := fun w' => Blk w' g 27 #[.int .i64 e.s, .int .i64 e.q, .int .i64 e.c.kind, .int .i64 e.c.who, .slice ca.Ak e.c.key.length ca.ck, .slice ca.Av e.c.val.length ca.cv, .slice ca.Ao e.c.old.length ca.co]) (by kernel_rfl) hS4g (fun _ => ?_)
    have HSG := Lib.hid hS4g
    clear hS4g
    generalize w4.drew = u0 at hT HSG ⊢
    have x0 : u0.cell? ⟨b, 0, none⟩ = some (.slice A L.length c) := (HKB.out.below hT.out).cell 0
    refine wpAnyH_take (i := 0) (v := .pointer (some ⟨b, 0, none⟩)) rfl (by kernel_rfl) (by kernel_rfl) (by kernel_rfl) (fun _ _ _ h => h) (Or.inl ⟨by kernel_rfl, fun w _ => by go_simp⟩) HSG.out ?_
    refine wpAnyH_take (i := 1) (v := .pointer (some ⟨b, 0, none⟩)) rfl (by kernel_rfl) (by kernel_rfl) (by kernel_rfl) (fun _ _ _ h => h) (Or.inl ⟨by kernel_rfl, fun w _ => by go_simp⟩) HSG.out ?_
    refine wpAnyH_take (i := 2) (v := .pointer (some ⟨b, 0, none⟩)) rfl (by kernel_rfl) (by kernel_rfl) (by kernel_rfl) (fun _ _ _ h => h) (Or.inl ⟨by kernel_rfl, fun w _ => by go_simp⟩) HSG.out ?_
    refine wpAnyH_take (i := 3) (v := .pointer (some ⟨b, 0, none⟩)) rfl (by kernel_rfl) (by kernel_rfl) (by kernel_rfl) (fun _ _ _ h => h) (Or.inl ⟨by kernel_rfl, fun w _ => by go_simp⟩) HSG.out ?_
    refine wpAnyH_take (i := 5) (v := .agg #[.int .i64 e.s, .int .i64 e.q, .int .i64 e.c.kind, .int .i64 e.c.who, .slice ca.Ak e.c.key.length ca.ck, .slice ca.Av e.c.val.length ca.cv, .slice ca.Ao e.c.old.length ca.co]) rfl (by kernel_rfl) (by kernel_rfl) (by kernel_rfl) (fun _ _ _ h => h) (Or.inl ⟨by kernel_rfl, fun w h => by obtain ⟨q0, q1, q2, q3, q4, q5, q6⟩ := seven h; go_simp⟩) HSG.out ?_
    refine wpAnyH_ready (rs := [4]) (by kernel_rfl) (by simp) ?_
    refine AllReadyH.cons rfl (fun K hK => ?_) AllReadyH.nil
    go_simp
    refine hK.out _ _ HSG.out (fun _ => ?_)
    clear hK K
    refine wpAnyH_ready (rs := [6]) (by kernel_rfl) (by simp) ?_
    refine AllReadyH.cons rfl (fun K hK => ?_) AllReadyH.nil
    go_simp
    refine (C6.out _ _ _ c _ (HLR.out.below hT.out) (hS.out.trans (hT.out.mono hS.out.size))).mono ?_
    rintro en w6 ⟨A6, c6, rfl, ho6, hB6, hb6⟩
    have hT := Lib.hid (hT.out.trans (hb6.mono hT.out.size))
    have HO6 := Lib.hid ho6
    have HSG := Lib.hid (HSG.out.below hb6)
    clear hb6 hB6 ho6 x0
    go_simp
    refine hK.out _ _ HSG.out (fun _ => ?_)
    clear hK K
    refine wpAnyH_take (i := 7) (v := .pointer (some ⟨b, 0, none⟩)) rfl (by kernel_rfl) (by kernel_rfl) (by kernel_rfl) (fun _ _ _ h => h) (Or.inl ⟨by kernel_rfl, fun w _ => by go_simp⟩) HSG.out ?_
    refine wpAnyH_take (i := 8) (v := .pointer (some ⟨b, 0, none⟩)) rfl (by kernel_rfl) (by kernel_rfl) (by kernel_rfl) (fun _ _ _ h => h) (Or.inl ⟨by kernel_rfl, fun w _ => by go_simp⟩) HSG.out ?_
    have x0 : w6.cell? ⟨b, 0, none⟩ = some (.slice A L.length c) := (HKB.out.below hT.out).cell 0
    have f0 := (HKB.out.below hT.out).frozen 0
    have HP := Lib.hid (WrP.yes (d := 200) (X := l) HW4.out rfl HEL.out (HL2.out rfl) HO6.out hT.out)
    have HK5 := Lib.hid ((HK.out.below hT.out).set_other (i := 0) (u := .slice A6 L2.length c6) (b := b) (by omega))
    have HF5 := Lib.hid ((HF.out w6 (hS.out.trans (hT.out.mono hS.out.size))).set_other (i := 0) (u := .slice A6 L2.length c6) (b := b) (by omega))
    refine wpAnyH_ready (rs := [9]) (by kernel_rfl) (by simp) ?_
    refine AllReadyH.cons rfl (fun K hK => ?_) AllReadyH.nil
    go_simp
    refine hK.out _ _ HF5.out (fun _ => ?_)
    clear hK K
    refine wpAnyH_done (by kernel_rfl) ?_ _
    generalize w6.setCell ⟨b, 0, none⟩ (.slice A6 L2.length c6) = w7 at HP HK5 HF5 ⊢
    clear x0 f0
    obtain ⟨v0, v1, v2, v3, v4, v5, v6⟩ := seven HF5.out
    obtain ⟨y0, y1, y2, y3, y4, y5, y6⟩ := seven HK5.out
    have z0 := HK5.out.frozen 0
    have z1 := HK5.out.frozen 1
    have z2 := HK5.out.frozen 2
    have z3 := HK5.out.frozen 3
    have z4 := HK5.out.frozen 4
    have z5 := HK5.out.frozen 5
    have z6 := HK5.out.frozen 6
    go_wp2_with fail
    have q0 := HK5.out
    have q1 := q0.set_ 0 (.int .i64 e.s)
    have q2 := q1.set_ 1 (.int .i64 e.q)
    have q3 := q2.set_ 2 (.int .i64 e.c.kind)
    have q4 := q3.set_ 3 (.int .i64 e.c.who)
    have q5 := q4.set_ 4 (.slice ca.Ak e.c.key.length ca.ck)
    have q6 := q5.set_ 5 (.slice ca.Av e.c.val.length ca.cv)
    have q7 := q6.set_ 6 (.slice ca.Ao e.c.old.length ca.co)
    refine bodyPost_ret (results_cell_row rfl _ _ _ _ _ _ _ rfl q7 Try.underlying27 rfl (by kernel_rfl)) rfl ?_
    refine ⟨⟨ca, e, rfl⟩, ?_⟩
    have hS4 := hS.out
    have hP0 := WrP.pre (HBZ.out.trans (hS4.mono HBZ.out.size)) HP.out
    exact (((((((hP0).set q0 (by decide) (by omega) (by have := HG.out; omega) (by omega)).set q1 (by decide) (by omega) (by have := HG.out; omega) (by omega)).set q2 (by decide) (by omega) (by have := HG.out; omega) (by omega)).set q3 (by decide) (by omega) (by have := HG.out; omega) (by omega)).set q4 (by decide) (by omega) (by have := HG.out; omega) (by omega)).set q5 (by decide) (by omega) (by have := HG.out; omega) (by omega)).set q6 (by decide) (by omega) (by have := HG.out; omega) (by omega)
end Go.Proofs.Ytlfkgpllleogoaa

