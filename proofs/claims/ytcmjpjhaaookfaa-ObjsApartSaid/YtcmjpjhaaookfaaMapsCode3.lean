/- The contracts of the code: slices.IndexFunc, slices.DeleteFunc of pairs, maps.without. -/
import Derived.Test.YtcmjpjhaaookfaaMapsCode2
namespace Go.Proofs.Ytcmjpjhaaookfaa
open Go.RowKit
set_option linter.unusedVariables false
theorem copiedM_any {W w : World} {ps : List Pr} {A : Option Addr} {n c B : Nat} (hn : n ≤ 100000) (hL : LimP ps) (hr : RdP w B A n ps) (hB : Below W.heap.size W w) :
    Calls Try.prog 88 #[.slice A n c] w fun e w' => ∃ g, e = .returned (.slice (some ⟨g, 0, none⟩) ps.length (ps.length + 1)) ∧ OwnP W w' (some ⟨g, 0, none⟩) ps.length (ps.length + 1) ps ∧ Below W.heap.size W w' ∧ Below w.heap.size w w' :=
  (copiedM_raw ps A n c B hn hL w hr).mono fun e w' ⟨g, h1, h2, h3⟩ => ⟨g, h1, h2.of hB.size, hB.trans (h3.mono hB.size), h3⟩
set_option maxHeartbeats 1000000 in
theorem indexFunc_any (w : World) {kb n c n' c' B B' : Nat} {A A' : Option Addr} {ps : List Pr} {k : List Nat} (hn : n ≤ 100000) (hb : BytesP ps) (hbk : ∀ x ∈ k, x < 256) (h : RdP w B A n ps) (hc : w.cell? ⟨kb, 0, none⟩ = some (.slice A' n' c')) (h' : Rd w B' A' n' (bv k)) :
    Calls Try.prog 104 #[.slice A n c, .func (.func 99) #[] #[.pointer (some ⟨kb, 0, none⟩)]] w fun e w' => e = .returned (.int .i64 (Mp.place (Mp.keys ps) k)) ∧ Below w.heap.size w w' := by
  have hlen := h.length
  have hlt0 := World.block_lt_of_cell? _ _ hc
  have H := Lib.hid h.fit
  have H' := Lib.hid h'.fit
  have HB := Lib.hid hb
  have HBK := Lib.hid hbk
  have HC : Hid (∀ wx, Below w.heap.size w wx → wx.cell? ⟨kb, 0, none⟩ = some (.slice A' n' c')) := Lib.hid (fun wx hb => (hb.cell (p := ⟨kb, 0, none⟩) hlt0).trans hc)
  clear h h' hb hbk hc hlt0
  go_enter Try.func104, Try.ntmps104
  go_wp2_with fail
  go_loopw [5, 8] (fun s5 s8 wr => ∃ j : Nat, j ≤ n ∧ s8 = .int .i64 j ∧ Hid (∀ i, i < j → (Mp.keys ps)[i]? ≠ some k) ∧ Hid (Below w.heap.size w wr)) (fun _ s8 _ => n - (intOf s8).toNat)
  case atStart => exact ⟨0, Nat.zero_le _, rfl, Lib.hid (fun i hi => absurd hi (by omega)), Lib.hid (Below.refl _ _)⟩
  case round =>
    obtain ⟨j, hj, rfl, HS, HB0⟩ := hrel
    by_cases hlt : j < n
    · obtain ⟨b, o, p, A1, c1, A2, c2, rfl, hp, hcell1, hcell2, hrd1, hrd2⟩ := ((H.out.below HB0.out).fit).at hlt
      have HP := Lib.hid hp
      have HR1 := Lib.hid hrd1
      have HBP := Lib.hid (HB.out p (List.mem_of_getElem? hp)).1
      clear hp hrd1 hrd2
      by_cases he : p.1 = k
      · have HE := Lib.hid he
        have HD := Lib.hid (decide_eq_true he)
        clear he
        go_wp2_with (first
          | (go_at_call 99; refine (pred_any _ HBK.out HBP.out (HC.out _ HB0.out) (H'.out.below HB0.out) HR1.out).mono ?_; rw [HD.out]; rintro e w2 ⟨rfl, hb2⟩)
          | fail)
        go_ret
        exact ⟨ret_int (Mp.place_first (by rw [keys_at HP.out, HE.out]) HS.out).symm, HB0.out.trans (hb2.mono HB0.out.size)⟩
      · have HE := Lib.hid he
        have HD := Lib.hid (decide_eq_false he)
        clear he
        go_wp2_with (first
          | (go_at_call 99; refine (pred_any _ HBK.out HBP.out (HC.out _ HB0.out) (H'.out.below HB0.out) HR1.out).mono ?_; rw [HD.out]; rintro e w2 ⟨rfl, hb2⟩)
          | fail)
        go_roundw
        case rel =>
          refine ⟨j + 1, by omega, by go_num, Lib.hid (fun i hi => ?_), Lib.hid (HB0.out.trans (hb2.mono HB0.out.size))⟩
          rcases Nat.lt_or_ge i j with h1 | h1
          · exact HS.out i h1
          · obtain rfl : i = j := by omega
            rw [keys_at HP.out]
            intro h; injection h with h; exact HE.out h
        case measure => simp [intOf]; omega
    · obtain rfl : j = n := by omega
      have HPL := Lib.hid (Mp.place_none (s := Mp.keys ps) (x := k) (by rw [keys_length, hlen]; exact HS.out))
      go_wp2_with fail
      go_ret
      exact ⟨ret_int HPL.out.symm, HB0.out⟩
/-- what the sweep keeps: behind place i0 all that stood ahead of i + 1 went down by one -/
def Swept (ps : List Pr) (i0 i : Nat) (qs : List Pr) : Prop := ∀ t, qs[t]? = if t < i0 then ps[t]? else if t < i then ps[t + 1]? else ps[t]?
theorem Swept.start (ps : List Pr) (i0 : Nat) : Swept ps i0 i0 ps := fun t => by split <;> rfl
theorem Swept.next {ps : List Pr} {i0 i : Nat} {qs : List Pr} {p : Pr} (h : Swept ps i0 i qs) (hi : i0 ≤ i) (hlt : i + 1 < ps.length) (hp : ps[i + 1]? = some p) : Swept ps i0 (i + 1) (qs.set i p) := fun t => by
  have hl : i < qs.length := by
    have h1 : qs[i]? = ps[i]? := by rw [h i, if_neg (by omega), if_neg (by omega)]
    have h2 : ps[i]? = some ps[i] := List.getElem?_eq_getElem (by omega)
    rw [h2] at h1
    exact (List.getElem?_eq_some_iff.1 h1).1
  by_cases hit : i = t
  · subst hit
    rw [List.getElem?_set_self hl, if_neg (by omega), if_pos (by omega), hp]
  · rw [List.getElem?_set_ne hit, h t]
    by_cases h1 : t < i0
    · rw [if_pos h1, if_pos h1]
    · rw [if_neg h1, if_neg h1]
      by_cases h2 : t < i
      · rw [if_pos h2, if_pos (by omega)]
      · rw [if_neg h2, if_neg (by omega)]
theorem Swept.at {ps : List Pr} {i0 i : Nat} {qs : List Pr} (h : Swept ps i0 i qs) (hi : i0 ≤ i) : qs[i + 1]? = ps[i + 1]? := by rw [h, if_neg (by omega), if_neg (by omega)]
theorem Swept.done {ps : List Pr} {i0 i : Nat} {qs : List Pr} (h : Swept ps i0 i qs) (hi : i0 ≤ i) (hl : i + 1 = ps.length) : qs.take i = ps.eraseIdx i0 := by
  apply List.ext_getElem?
  intro t
  rw [List.getElem?_eraseIdx]
  rcases Nat.lt_or_ge t i with h1 | h1
  · rw [List.getElem?_take_of_lt h1, h t]
    by_cases h2 : t < i0
    · rw [if_pos h2, if_pos h2]
    · rw [if_neg h2, if_neg h2, if_pos h1]
  · rw [List.getElem?_eq_none (by simp; omega), if_neg (by omega), List.getElem?_eq_none (by omega)]
theorem flat_set {ps : List Pr} {i : Nat} {p : Pr} (hi : i < ps.length) : flat (ps.set i p) = ((flat ps).set (i * 2) p.1).set (i * 2 + 1) p.2 := by
  induction ps generalizing i with
  | nil => simp at hi
  | cons q ps ih =>
    cases i with
    | zero => rfl
    | succ i =>
      rw [List.set_cons_succ, flat_cons, flat_cons, ih (by simpa using hi), show (i + 1) * 2 + 1 = (i * 2 + 1) + 1 + 1 by omega, show (i + 1) * 2 = i * 2 + 1 + 1 by omega]; rfl
theorem rises_other {ps : List Pr} {i j : Nat} {p q : Pr} (h : Mp.Rises ps) (hi : ps[i]? = some p) (hj : ps[j]? = some q) (hij : i < j) : q.1 ≠ p.1 := by
  obtain ⟨h1, e1⟩ := List.getElem?_eq_some_iff.1 hi
  obtain ⟨h2, e2⟩ := List.getElem?_eq_some_iff.1 hj
  have := List.pairwise_iff_getElem.1 h i j h1 h2 hij
  rw [e1, e2] at this
  intro h; rw [h, Mp.ltB_irrefl] at this; cases this
set_option maxHeartbeats 4000000 in
set_option maxRecDepth 100000 in
theorem deleteFunc_any {W w : World} {kb g n c n' c' B' : Nat} {A' : Option Addr} {ps : List Pr} {k : List Nat} (hn : n ≤ 100000) (hnc : n < c) (hb : BytesP ps) (hbk : ∀ x ∈ k, x < 256) (hrise : Mp.Rises ps)
    (h : OwnP W w (some ⟨g, 0, none⟩) n c ps) (hc : W.cell? ⟨kb, 0, none⟩ = some (.slice A' n' c')) (h' : Rd W B' A' n' (bv k)) (hB : Below W.heap.size W w) :
    Calls Try.prog 98 #[.slice (some ⟨g, 0, none⟩) n c, .func (.func 99) #[] #[.pointer (some ⟨kb, 0, none⟩)]] w fun e w' => e = .returned (.slice (some ⟨g, 0, none⟩) (Mp.delS ps k).length c) ∧ OwnP W w' (some ⟨g, 0, none⟩) (Mp.delS ps k).length c (Mp.delS ps k) ∧ Below W.heap.size W w' := by
  obtain rfl := h.length
  have hlt0 := World.block_lt_of_cell? _ _ hc
  have H := Lib.hid h
  have H' := Lib.hid h'.fit
  have HB := Lib.hid hb
  have HBK := Lib.hid hbk
  have HR := Lib.hid hrise
  have HBW := Lib.hid hB
  have HC : Hid (∀ wx, Below W.heap.size W wx → wx.cell? ⟨kb, 0, none⟩ = some (.slice A' n' c')) := Lib.hid (fun wx hb => (hb.cell (p := ⟨kb, 0, none⟩) hlt0).trans hc)
  have HI := Lib.hid (indexFunc_any w (A := some ⟨g, 0, none⟩) (c := c) hn hb hbk h.rd (HC.out w hB) (h'.fit.below hB))
  clear h h' hb hbk hc hlt0 hrise hB
  unfold Mp.delS
  by_cases hk : k ∈ Mp.keys ps
  · rw [if_pos hk]
    obtain ⟨i0, ei, hi, hix⟩ := Mp.place_lt hk
    rw [hix]
    rw [ei] at HI
    have hin : i0 < ps.length := by
      have h1 : i0 < (Mp.keys ps).length := by
        rcases Nat.lt_or_ge i0 (Mp.keys ps).length with h | h
        · exact h
        · rw [List.getElem?_eq_none h] at hi; cases hi
      rwa [keys_length] at h1
    obtain ⟨p0, hp0⟩ : ∃ p, ps[i0]? = some p := ⟨_, List.getElem?_eq_getElem hin⟩
    have hk0 : p0.1 = k := by
      rw [keys_at hp0] at hi; injection hi
    have HP0 := Lib.hid hp0
    have HK0 := Lib.hid hk0
    have hne1 : ((i0 : Int) == -1) = false := beq_eq_false_iff_ne.2 (by omega)
    have hel : (ps.eraseIdx i0).length = ps.length - 1 := by rw [List.length_eraseIdx_of_lt hin]
    rw [hel]
    have HEL := Lib.hid hel
    clear hk ei hi hix hp0 hk0 hel
    go_enter Try.func98, Try.ntmps98
    go_wp2_with (first
      | (go_at_call 104; refine HI.out.mono ?_; rintro e w1 ⟨rfl, hb1⟩)
      | fail)
    have HO1 := Lib.hid (H.out.below hb1)
    have HB1 := Lib.hid (HBW.out.trans (hb1.mono HBW.out.size))
    clear hb1 HI H
    go_loopw [5, 6, 7] (fun s5 s6 s7 wr => ∃ (i : Nat) (qs : List Pr), i0 ≤ i ∧ i + 1 ≤ ps.length ∧ s5 = .int .i64 (i : Int) ∧ s6 = .int .i64 ((i : Int) + 1) ∧ Hid (OwnP W wr (some ⟨g, 0, none⟩) ps.length c qs) ∧ Hid (Swept ps i0 i qs) ∧ Hid (Below W.heap.size W wr)) (fun s5 _ _ _ => ps.length - (intOf s5).toNat)
    case atStart => exact ⟨i0, ps, Nat.le_refl _, by omega, rfl, by go_num, HO1, Lib.hid (Swept.start _ _), HB1⟩
    case round =>
      obtain ⟨i, qs, hi0, hi1, rfl, rfl, HO, HS, HBR⟩ := hrel
      obtain ⟨vs, hrow, hown⟩ := HO.out
      have hql : qs.length = ps.length := HO.out.length
      by_cases hlt : i + 1 < ps.length
      · obtain ⟨p, hp⟩ : ∃ p, ps[i + 1]? = some p := ⟨_, List.getElem?_eq_getElem hlt⟩
        have hqp : qs[i + 1]? = some p := by rw [HS.out.at hi0, hp]
        obtain ⟨A1, c1, e1, ho1⟩ := hown.cell ((i + 1) * 2) p.1 (by rw [flat_key, hqp]; rfl)
        obtain ⟨A2, c2, e2, ho2⟩ := hown.cell ((i + 1) * 2 + 1) p.2 (by rw [flat_val, hqp]; rfl)
        have hcx := (hrow.cellAt ((i + 1) * 2) (by omega)).trans e1
        have hcy := (hrow.cellAt ((i + 1) * 2 + 1) (by omega)).trans e2
        have hne := rises_other HR.out HP0.out hp (by omega)
        rw [HK0.out] at hne
        have HD := Lib.hid (decide_eq_false hne)
        have hltz : (i : Int) + 1 < (ps.length : Int) := by omega
        have b1 : Below wr.heap.size wr (wr.alloc (.cells #[.slice A1 p.1.length c1, .slice A2 p.2.length c2] 42)) := (Below.refl _ _).alloc (Nat.le_refl _) _
        have bw1 := HBR.out.trans (b1.mono HBR.out.size)
        have HPR : Hid (Calls Try.prog 99 #[.agg #[.slice A1 p.1.length c1, .slice A2 p.2.length c2], .pointer (some ⟨kb, 0, none⟩)] (wr.alloc (.cells #[.slice A1 p.1.length c1, .slice A2 p.2.length c2] 42)) fun e w' => e = .returned (.bool false) ∧ Below (wr.heap.size + 1) (wr.alloc (.cells #[.slice A1 p.1.length c1, .slice A2 p.2.length c2] 42)) w') := Lib.hid (by
          have := pred_any (wr.alloc (.cells #[.slice A1 p.1.length c1, .slice A2 p.2.length c2] 42)) (A2 := A2) (c1 := c1) (n2 := p.2.length) (c2 := c2) HBK.out (HB.out p (List.mem_of_getElem? hp)).1 (HC.out _ bw1) (H'.out.below bw1) ((Rd.own_ ho1).below b1)
          rw [HD.out] at this
          simpa using this)
        have HROW := Lib.hid hrow
        have HOWN := Lib.hid hown
        have HO1 := Lib.hid ho1
        have HO2 := Lib.hid ho2
        have HB1 := Lib.hid b1
        have HP := Lib.hid hp
        clear hrow hown ho1 ho2 hp hqp e1 e2 hne b1 bw1
        go_wp2_with (first
          | (go_at_call 99; refine HPR.out.mono ?_; rintro e w2 ⟨rfl, hb2⟩
             have hbox0 := (hb2.cell (p := ⟨wr.heap.size, 0, none⟩) (by simp)).trans ((Blk.new wr 42 #[.slice A1 p.1.length c1, .slice A2 p.2.length c2]).cell 0)
             have hbox1 := (hb2.cell (p := ⟨wr.heap.size, 1, none⟩) (by simp)).trans ((Blk.new wr 42 #[.slice A1 p.1.length c1, .slice A2 p.2.length c2]).cell 1)
             have hb3 : Below wr.heap.size wr w2 := HB1.out.trans (hb2.mono (by simp))
             have hrow2 := ownsRow_below HROW.out hb3
             have hf0 := own_frozenS hrow2 (i * 2)
             have hf1 := own_frozenS hrow2 (i * 2 + 1)
             obtain ⟨u0, hu0⟩ : ∃ u, w2.cell? ⟨g, i * 2, none⟩ = some u := ⟨_, (hrow2.cellAt (i * 2) (by omega)).trans (List.getElem?_eq_getElem (by rw [hrow2.1]; omega))⟩
             obtain ⟨u1, hu1⟩ : ∃ u, w2.cell? ⟨g, i * 2 + 1, none⟩ = some u := ⟨_, (hrow2.cellAt (i * 2 + 1) (by omega)).trans (List.getElem?_eq_getElem (by rw [hrow2.1]; omega))⟩
             have HROW2 := Lib.hid hrow2
             have HB3 := Lib.hid hb3
             clear hrow2 hb2 hb3)
          | fail)
        go_roundw
        case rel =>
          obtain ⟨cur, hbk, _, _, _, hbase⟩ := own_cur HROW2.out
          refine ⟨i + 1, qs.set i p, by omega, by omega, by go_num, by go_num, Lib.hid ⟨(vs.set (i * 2) (.slice A1 p.1.length c1)).set (i * 2 + 1) (.slice A2 p.2.length c2), ((HROW2.out.stored (i * 2) _).1.stored (i * 2 + 1) _).1, ?_⟩, Lib.hid (HS.out.next hi0 hlt HP.out), Lib.hid (((HBR.out.trans (HB3.out.mono HBR.out.size)).setCell (p := ⟨g, i * 2, none⟩) hbase _).setCell (p := ⟨g, i * 2 + 1, none⟩) hbase _)⟩
          rw [flat_set (by omega)]
          have q1 : 5 ≠ 42 := by decide
          have s0 := ((HOWN.out.below HB3.out).set_t hbk (i := i * 2) (u := .slice A1 p.1.length c1) q1).set_t (hbk.set_ _ _) (i := i * 2 + 1) (u := .slice A2 p.2.length c2) q1
          exact (s0.set (own_set_t (own_set_t (own_below HO1.out HB3.out) hbk q1) (hbk.set_ _ _) q1) _).set (own_set_t (own_set_t (own_below HO2.out HB3.out) hbk q1) (hbk.set_ _ _) q1) _
        case measure => simp [intOf]; omega
      · obtain ⟨cur, hbk, hcs, htk, _, hbase⟩ := own_cur hrow
        have hie : i + 1 = ps.length := by omega
        have hltz : ¬ (i : Int) + 1 < (ps.length : Int) := by omega
        obtain ⟨t0, ht0, htz, hts, _⟩ := info_parts cellP.info
        have hsl1 : ∀ w : World, (Instr.slice 30 (.slice (some ⟨g, 0, none⟩) ps.length c) (some (.int .i64 (i : Int))) none none).run Try.prog w = .ok (.slice (some ⟨g, i * 2, none⟩) 1 (c - i)) w := fun w => by
          have := run_slice_fromS_ (P := Try.prog) Try.underlying30 ht0 hts (some ⟨g, 0, none⟩) ps.length c i (by omega) w
          unfold cutS at this
          rw [if_neg (by omega), Option.map_some, adr_add, Nat.zero_add, show ps.length - i = 1 by omega] at this
          exact this
        have hsl2 := run_slice_to (P := Try.prog) (t := 30) Try.underlying30 ht0 (some ⟨g, 0, none⟩) ps.length c i (by omega)
        have hcl := fun ty => run_clear_one (P := Try.prog) wr 30 ty 42 t0 _ Try.underlying30 ht0 htz (by intro u hu; simp [Value.cells] at hu; subst hu; rfl) g (i * 2) (c - i) cur hbk (by simp [Value.cells]; omega)
        obtain ⟨wz, hwz⟩ : ∃ wz, wr.setRow g (cur.toList.take (i * 2) ++ (Value.agg #[.slice none 0 0, .slice none 0 0]).cells.toList ++ cur.toList.drop (i * 2 + (Value.agg #[.slice none 0 0, .slice none 0 0]).cells.size)).toArray = wz := ⟨_, rfl⟩
        rw [hwz] at hcl
        have HWZ := Lib.hid hwz
        have HHROW := Lib.hid hrow
        have HOWN := Lib.hid hown
        have HCS := Lib.hid hcs
        have HTK := Lib.hid htk
        have HBK2 := Lib.hid hbk
        clear hwz hrow hown hbk hcs htk ht0 htz hts
        go_wp2_with fail
        go_ret
        have hz2 : (Value.agg #[.slice none 0 0, .slice none 0 0]).cells = #[.slice none 0 0, .slice none 0 0] := rfl
        have hwz := HWZ.out
        rw [hz2] at hwz
        obtain ⟨r1, r2⟩ := own_written HHROW.out (n' := i) (vs' := vs.take (i * 2)) (cur.toList.take (i * 2) ++ [Value.slice none 0 0, Value.slice none 0 0] ++ cur.toList.drop (i * 2 + 2)).toArray (by have := HCS.out; simp; omega) (by omega) (by rw [List.length_take, HHROW.out.1]; omega) (by
          have := HCS.out
          rw [List.append_assoc, List.take_append_of_le_length (by simp; omega), List.take_take, Nat.min_self, ← HTK.out, List.take_take, Nat.min_eq_left (by omega)])
        rw [show wr.setRow g (cur.toList.take (i * 2) ++ [Value.slice none 0 0, Value.slice none 0 0] ++ cur.toList.drop (i * 2 + 2)).toArray = wz from hwz] at r1 r2
        refine ⟨?_, ⟨_, by rw [show ps.length - 1 = i by omega]; exact r1, ?_⟩, HBR.out.grown r2 HBR.out.size (fun k hk => by injection hk with hk; omega)⟩
        · rw [show ps.length - 1 = i by omega]; rfl
        · rw [← HS.out.done hi0 hie, flat_take]
          exact (HOWN.out.take (i * 2)).grownP HHROW.out r2
  · rw [if_neg hk]
    have hpn := Mp.place_no hk
    rw [hpn] at HI
    clear hk hpn
    go_enter Try.func98, Try.ntmps98
    go_wp2_with (first
      | (go_at_call 104; refine HI.out.mono ?_; rintro e w1 ⟨rfl, hb1⟩)
      | fail)
    go_ret
    exact ⟨rfl, H.out.below hb1, HBW.out.trans (hb1.mono HBW.out.size)⟩
end Go.Proofs.Ytcmjpjhaaookfaa
