/- MachPutE -/
import Derived.Test.YtmekamgohonffaaBF29
namespace Go.Proofs.Ytmekamgohonffaa
open Go.RowKit
set_option linter.unusedVariables false
theorem RdT.at_ {w : World} {e : TypeId} {A : Option Addr} {n k : Nat} {vs : List Value} {v : Value} (h : RdT w e A n vs) (hk : k < n) (hv : vs[k]? = some v) : ∃ b o, A = some ⟨b, o, none⟩ ∧ w.cell? ⟨b, o + k, none⟩ = some v := by
  obtain ⟨g, o, cur, e1, hb, hc⟩ := h.2 (by omega)
  exact ⟨g, o, e1, (hb.cell _).trans ((hc k hk).trans hv)⟩
theorem iv_at {zs : List Int} {k : Nat} {z : Int} (h : zs[k]? = some z) : (iv zs)[k]? = some (.int .i64 z) := by unfold iv; rw [List.getElem?_map, h]; rfl
set_option maxHeartbeats 4000000 in
set_option maxRecDepth 100000 in
theorem putEntry_raw {w : World} {l : List Nat} {A : Option Addr} {n c B : Nat} {ca : CA} {e : En} {B' : Nat} (hl : l.length ≤ 10000) (hc : e.c.Fits) (h : Rd w B A n (bv l)) (h' : RdC w B' ca e.c) :
    Calls Try.prog 11 #[.slice A n c, entV ca e] w (GotIn w w (l ++ e.enc)) := by
  obtain rfl := h.length
  obtain ⟨wz, hwz⟩ : ∃ wz, w.alloc (.cells (entC ca e) 26) = wz := ⟨_, rfl⟩
  have hbz : Below w.heap.size w wz := by rw [← hwz]; exact (Below.refl _ _).alloc (Nat.le_refl _) _
  have hkz : Blk wz w.heap.size 26 (entC ca e) := by rw [← hwz]; exact Blk.new _ _ _
  have HR := Lib.hid ((h.fit.below hbz).fit)
  have HC := Lib.hid ((h'.fit.below hbz).fit)
  have HZ := Lib.hid hbz
  obtain ⟨g, hg⟩ : ∃ g, w.heap.size = g := ⟨_, rfl⟩
  rw [hg] at hkz
  have HF : Hid (∀ wx, Below wz.heap.size wz wx → Blk wx g 26 (entC ca e)) := Lib.hid (fun wx hb => hkz.below hb)
  have HW := Lib.hid hwz
  have HG := Lib.hid hg
  obtain ⟨zs, hzs⟩ : ∃ zs : List Int, [e.s, e.q, e.c.kind, e.c.who] = zs := ⟨_, rfl⟩
  obtain ⟨qs, hqs⟩ : ∃ qs : List (List Nat), [e.c.key, e.c.val, e.c.old] = qs := ⟨_, rfl⟩
  have hz4 : zs.length = 4 := by rw [← hzs]; rfl
  have hq3 : qs.length = 3 := by rw [← hqs]; rfl
  have hq100 : ∀ x ∈ qs, x.length ≤ 100 := by
    rw [← hqs]
    intro x hx
    simp only [List.mem_cons, List.not_mem_nil, or_false] at hx
    rcases hx with rfl | rfl | rfl
    · exact hc.key.1
    · exact hc.val.1
    · exact hc.old.1
  have hcells : Cells wz wz.heap.size [.slice ca.Ak e.c.key.length ca.ck, .slice ca.Av e.c.val.length ca.cv, .slice ca.Ao e.c.old.length ca.co] qs := by
    rw [← hqs]
    refine ⟨rfl, fun i x hx => ?_⟩
    match i, hx with
    | 0, hx => simp at hx; subst hx; exact ⟨_, _, rfl, HC.out.rk⟩
    | 1, hx => simp at hx; subst hx; exact ⟨_, _, rfl, HC.out.rv⟩
    | 2, hx => simp at hx; subst hx; exact ⟨_, _, rfl, HC.out.ro⟩
    | i + 3, hx => simp at hx
  have hivz : iv zs = [.int .i64 e.s, .int .i64 e.q, .int .i64 e.c.kind, .int .i64 e.c.who] := by rw [← hzs]; rfl
  have hEND : l ++ e.enc = (l ++ Pk.encs zs) ++ encQ qs := by
    rw [← hzs, ← hqs]; unfold En.enc encQ; simp [Pk.encs, List.append_assoc]
  have hqb : ∀ k, (encQ (qs.take k)).length ≤ 400 := by
    have hgen : ∀ ys : List (List Nat), (∀ x ∈ ys, x.length ≤ 100) → (encQ ys).length ≤ 109 * ys.length := by
      intro ys
      induction ys with
      | nil => intro _; simp [encQ]
      | cons y ys ih =>
        intro hy
        have h1 := ih fun z hz => hy z (List.mem_cons_of_mem _ hz)
        have h2 := hy y (by simp)
        have h3 := encB_length y
        unfold encQ at h1 ⊢
        rw [List.flatMap_cons, List.length_append, List.length_cons]; omega
    intro k
    have h1 := hgen (qs.take k) (fun x hx => hq100 x (List.mem_of_mem_take hx))
    have h2 : (qs.take k).length ≤ 3 := by rw [List.length_take]; omega
    omega
  rw [hEND]
  have HQ := Lib.hid hq100
  have HQB := Lib.hid hqb
  have HCL := Lib.hid hcells
  have HIV := Lib.hid hivz
  clear hzs hqs hq100 hcells hEND hqb hivz h h' hbz hkz hwz hg
  unfold entV entC
  unfold entC at HW HF
  go_enter Try.func11, Try.ntmps11
  go_upto_region 1 with fail
  rw [HG.out, HW.out]
  go_upto_region 2 with (first
    | (go_at_call 33; refine (clone_any (W := wz) (by unfold Lim; omega) HR.out (Below.refl _ _)).mono ?_; rintro en w1 ⟨A1, c1, rfl, ho1, hB1, hb1⟩; obtain ⟨x0, x1, x2, x3, x4, x5, x6⟩ := seven (HF.out w1 hB1))
    | fail)
  go_wp2_with fail
  have bb : Below w1.heap.size w1 (w1.alloc (.cells #[.int .i64 e.s, .int .i64 e.q, .int .i64 e.c.kind, .int .i64 e.c.who] 3)) := (Below.refl _ _).alloc (Nat.le_refl _) _
  have hrow : RdT (w1.alloc (.cells #[.int .i64 e.s, .int .i64 e.q, .int .i64 e.c.kind, .int .i64 e.c.who] 3)) 3 (some ⟨w1.heap.size, 0, none⟩) 4 (iv zs) :=
    ⟨by rw [iv_length, hz4], fun _ => ⟨_, 0, _, rfl, Blk.new _ _ _, fun i hi => by rw [HIV.out]; simp⟩⟩
  have HO1 := Lib.hid (own_below ho1 bb)
  have HB1 := Lib.hid (hB1.trans (bb.mono hB1.size))
  obtain ⟨P, hP⟩ : ∃ P : Option Addr, some ⟨w1.heap.size, 0, none⟩ = P := ⟨_, rfl⟩
  rw [hP] at hrow
  rw [hP]
  have HROW := Lib.hid hrow
  clear hP hrow ho1 hB1 hb1 x0 x1 x2 x3 x4 x5 x6
  generalize w1.alloc (.cells #[.int .i64 e.s, .int .i64 e.q, .int .i64 e.c.kind, .int .i64 e.c.who] 3) = wb at HO1 HB1 HROW bb ⊢
  clear bb
  go_loopw [5, 7, 24] (fun s5 s7 s24 wr => ∃ (k : Nat) (A2 : Option Addr) (c2 : Nat) (L : List Nat), k ≤ 4 ∧ s24 = .int .i64 (k : Int) ∧ s5 = .slice A2 L.length c2 ∧ Hid (L = l ++ Pk.encs (zs.take k)) ∧ Hid (OwnB wz wr A2 L.length c2 L) ∧ Hid (Below wz.heap.size wz wr) ∧ Hid (RdT wr 3 P 4 (iv zs))) (fun _ _ s24 _ => 4 - (intOf s24).toNat)
  case atStart => exact ⟨0, A1, c1, l, Nat.zero_le _, rfl, rfl, Lib.hid (by simp [Pk.encs]), HO1, HB1, HROW⟩
  case round =>
    obtain ⟨k, A2, c2, L, hk, rfl, rfl, HL, HO, HB, HT⟩ := hrel
    by_cases hlt : k < 4
    · obtain ⟨z, hz⟩ : ∃ z, zs[k]? = some z := ⟨_, List.getElem?_eq_getElem (by omega)⟩
      obtain ⟨b, o, rfl, y0⟩ := HT.out.at_ hlt (iv_at hz)
      have hLL : L.length ≤ 1000000 := by
        have h1 := Pk.encs_length (zs.take k)
        have h2 : (zs.take k).length ≤ 4 := by rw [List.length_take]; omega
        rw [HL.out, List.length_append]; omega
      have HP := Lib.hid hz
      have HCN := Lib.hid (putNum_any (W := wz) z hLL HO.out HB.out)
      obtain ⟨L', eL⟩ : ∃ y, L ++ Pk.enc (Pk.held z) = y := ⟨_, rfl⟩
      rw [eL] at HCN
      have HEL := Lib.hid eL
      clear eL hz
      go_wp2_with (first
        | (go_at_call 28; refine HCN.out.mono ?_; rintro en w4 ⟨A5, c5, rfl, ho5, hB5, hb5⟩)
        | fail)
      go_roundw
      case rel =>
        refine ⟨k + 1, A5, c5, L', by omega, by go_num, rfl, Lib.hid ?_, Lib.hid ho5, Lib.hid hB5, Lib.hid (HT.out.onlyB hb5 (by decide))⟩
        rw [← HEL.out, HL.out, take_snoc HP.out, Pk.encs_snoc]
        simp only [List.append_assoc]
      case measure => simp only [intOf]; omega
    · have hL4 : L = l ++ Pk.encs zs := by rw [HL.out, List.take_of_length_le (by omega)]
      obtain ⟨l0, e0⟩ : ∃ x, l ++ Pk.encs zs = x := ⟨_, rfl⟩
      have hl0 : l0.length ≤ 20000 := by
        have h1 := Pk.encs_length zs
        rw [← e0, List.length_append]; omega
      rw [e0] at hL4
      have HE0 := Lib.hid e0
      clear HL
      subst L
      have HLL := Lib.hid hl0
      obtain ⟨x0, x1, x2, x3, x4, x5, x6⟩ := seven (HF.out wr HB.out)
      clear e0 hl0
      go_wp2_with fail
      have bb : Below wr.heap.size wr (wr.alloc (.cells #[.slice ca.Ak e.c.key.length ca.ck, .slice ca.Av e.c.val.length ca.cv, .slice ca.Ao e.c.old.length ca.co] 22)) := (Below.refl _ _).alloc (Nat.le_refl _) _
      have hrow : RdT (wr.alloc (.cells #[.slice ca.Ak e.c.key.length ca.ck, .slice ca.Av e.c.val.length ca.cv, .slice ca.Ao e.c.old.length ca.co] 22)) 22 (some ⟨wr.heap.size, 0, none⟩) 3 [.slice ca.Ak e.c.key.length ca.ck, .slice ca.Av e.c.val.length ca.cv, .slice ca.Ao e.c.old.length ca.co] :=
        ⟨rfl, fun _ => ⟨_, 0, _, rfl, Blk.new _ _ _, fun i hi => by simp⟩⟩
      have HO1 := Lib.hid (own_below HO.out bb)
      have HB1 := Lib.hid (HB.out.trans (bb.mono HB.out.size))
      obtain ⟨P2, hP⟩ : ∃ P2 : Option Addr, some ⟨wr.heap.size, 0, none⟩ = P2 := ⟨_, rfl⟩
      rw [hP] at hrow
      rw [hP]
      have HROW2 := Lib.hid hrow
      clear hP hrow x0 x1 x2 x3 x4 x5 x6
      generalize wr.alloc (.cells #[.slice ca.Ak e.c.key.length ca.ck, .slice ca.Av e.c.val.length ca.cv, .slice ca.Ao e.c.old.length ca.co] 22) = wc at HO1 HB1 HROW2 bb ⊢
      clear bb
      go_loopw [5, 9, 43] (fun s5 s9 s43 wr => ∃ (k : Nat) (A2 : Option Addr) (c2 : Nat) (L : List Nat), k ≤ 3 ∧ s43 = .int .i64 (k : Int) ∧ s5 = .slice A2 L.length c2 ∧ Hid (L = l0 ++ encQ (qs.take k)) ∧ Hid (OwnB wz wr A2 L.length c2 L) ∧ Hid (Below wz.heap.size wz wr) ∧ Hid (RdT wr 22 P2 3 [.slice ca.Ak e.c.key.length ca.ck, .slice ca.Av e.c.val.length ca.cv, .slice ca.Ao e.c.old.length ca.co])) (fun _ _ s43 _ => 3 - (intOf s43).toNat)
      case atStart => exact ⟨0, A2, c2, l0, Nat.zero_le _, rfl, rfl, Lib.hid (by simp [encQ]), HO1, HB1, HROW2⟩
      case round =>
        clear HO1 HB1 HROW2 HO HB HT
        obtain ⟨k, A2, c2, L, hk, rfl, rfl, HL, HO, HB, HT⟩ := hrel
        by_cases hlt : k < 3
        · obtain ⟨x, hx⟩ : ∃ x, qs[k]? = some x := ⟨_, List.getElem?_eq_getElem (by omega)⟩
          obtain ⟨A3, c3, hv, hrd⟩ := HCL.out.cell k x hx
          obtain ⟨b, o, rfl, y0⟩ := HT.out.at_ hlt hv
          have hLL : L.length ≤ 1000000 := by
            have h1 := HQB.out k
            have h2 := HLL.out
            rw [HL.out, List.length_append]; omega
          have HP := Lib.hid hx
          have HCN := Lib.hid (putBytes_any (W := wz) (c' := c3) hLL (Nat.le_trans (HQ.out x (List.mem_of_getElem? hx)) (by omega)) HO.out hrd HB.out)
          obtain ⟨L', eL⟩ : ∃ y, L ++ Pk.encB x = y := ⟨_, rfl⟩
          rw [eL] at HCN
          have HEL := Lib.hid eL
          clear eL hx hv hrd
          go_wp2_with (first
            | (go_at_call 25; refine HCN.out.mono ?_; rintro en w4 ⟨A5, c5, rfl, ho5, hB5, hb5⟩)
            | fail)
          go_roundw
          case rel =>
            refine ⟨k + 1, A5, c5, L', by omega, by go_num, rfl, Lib.hid ?_, Lib.hid ho5, Lib.hid hB5, Lib.hid (HT.out.onlyB hb5 (by decide))⟩
            rw [← HEL.out, HL.out, take_snoc HP.out, encQ_snoc]
            simp only [List.append_assoc]
          case measure => simp only [intOf]; omega
        · obtain rfl : k = 3 := by omega
          go_wp2_with fail
          go_ret
          have hL3 : L = l0 ++ encQ qs := by rw [HL.out, List.take_of_length_le (by omega)]
          have hb := HZ.out.trans (HB.out.mono HZ.out.size)
          rw [HE0.out, ← hL3]
          exact ⟨A2, c2, rfl, own_of HZ.out.size HO.out, hb, hb⟩
theorem putEntry_any {W w : World} {l : List Nat} {A : Option Addr} {n c B : Nat} {ca : CA} {e : En} {B' : Nat} (hl : l.length ≤ 10000) (hc : e.c.Fits) (h : Rd w B A n (bv l)) (h' : RdC w B' ca e.c) (hB : Below W.heap.size W w) :
    Calls Try.prog 11 #[.slice A n c, entV ca e] w (GotIn W w (l ++ e.enc)) :=
  (putEntry_raw hl hc h h').mono fun en w' ⟨A', c', h1, h2, h3, h4⟩ => ⟨A', c', h1, own_of hB.size h2, hB.trans (h3.mono hB.size), h4⟩
end Go.Proofs.Ytmekamgohonffaa

