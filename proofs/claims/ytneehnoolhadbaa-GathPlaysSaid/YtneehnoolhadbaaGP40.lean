/- GathRefK GathRef1 -/
import Derived.Test.YtneehnoolhadbaaGP33
import Derived.Test.YtneehnoolhadbaaGP38
namespace Go.Proofs.Ytneehnoolhadbaa
open Go.RowKit
set_option linter.unusedVariables false
set_option linter.unusedSimpArgs false
/-- the block's cells -/
def rgC (n : Nat) (id v : Int) (A : Option Addr) (k c : Nat) (m0 m1 m3 m5 m7 m8 : Int) (sure : Bool) (rd : Nat) : Array Value :=
  #[.int .i64 n, .int .i64 id, .int .i64 v, .slice A k c, .int .i64 m0, .int .i64 m1, .int .i64 0, .int .i64 m3, .int .i64 0, .int .i64 m5, .bool false, .int .i64 m7, .int .i64 m8, .int .i64 0, .int .i64 0, .slice none 0 0, .int .i64 0, .int .i64 0, .slice none 0 0, .slice none 0 0, .int .i64 0, .int .i64 0, .int .i64 0, .int .i64 0, .int .i64 0, .slice none 0 0, .slice none 0 0, .slice none 0 0, .bool sure, .int .i64 rd]
theorem setL_rg (n : Nat) (id v : Int) (A : Option Addr) (k c : Nat) (m0 m1 m3 m5 m7 m8 p0 p1 p3 p5 p7 p8 : Int) (su : Bool) (rd : Nat) : setL (rgC n id v A k c m0 m1 m3 m5 m7 m8 su rd) 4 (comC p0 p1 p3 p5 p7 p8) = rgC n id v A k c p0 p1 p3 p5 p7 p8 su rd := by kernel_rfl
theorem rangeComR {w : World} {b : Nat} {n : Nat} {id v : Int} {A : Option Addr} {k c : Nat} {m0 m1 m3 m5 m7 m8 : Int} {su : Bool} {rd : Nat} (h : Blk w b 60 (rgC n id v A k c m0 m1 m3 m5 m7 m8 su rd)) : w.rangeAt b 4 (comC m0 m1 m3 m5 m7 m8) := by
  have := World.rangeAt_of_block h 4 24
  simpa [rgC, comC] using this
structure RRep (W w : World) (b : Nat) (g : Gm) (A : Option Addr) (k c : Nat) (es : List (List Value)) (m0 m1 m3 m5 m7 m8 : Int) : Prop where
  blk : Blk w b 60 (rgC g.n g.id g.v A k c m0 m1 m3 m5 m7 m8 g.com.isSome g.ready)
  com : ComR g m0 m1 m3 m5 m7 m8
  own : OwnV W w A k c es
  len : es.length = k
  ms : ∀ cs ∈ es, Ms cs
  st : es.map svOf = g.l
  ok : g.Ok
  lo : W.heap.size ≤ b
  bel : Below W.heap.size W w
def RthAt (W w : World) (S : Nat → Prop) (b : Nat) (g : Gm) : Prop := ∃ A k c es m0 m1 m3 m5 m7 m8, RRep W w b g A k c es m0 m1 m3 m5 m7 m8 ∧ S = gaS b A
section
variable {W w w' : World} {b k c : Nat} {g : Gm} {A : Option Addr} {es : List (List Value)} {m0 m1 m3 m5 m7 m8 : Int} {S : Nat → Prop}
theorem RRep.few (h : RRep W w b g A k c es m0 m1 m3 m5 m7 m8) : k ≤ 7 := by
  have h2 : g.l.length ≤ g.n := by
    have hnd : (g.l.map (fun s => s.frm.toNat)).Nodup := by
      refine List.pairwise_map.2 (h.ok.apart.imp_of_mem ?_)
      intro a b ha hb hne he
      have := h.ok.st a ha; have := h.ok.st b hb
      exact hne (by omega)
    have := nodup_le g.n _ hnd (fun x hx => by
      obtain ⟨s, hs, rfl⟩ := List.mem_map.1 hx
      have := h.ok.st s hs
      omega)
    simpa using this
  have h3 := h.ok.n7
  have h4 : es.length = g.l.length := by rw [← h.st, List.length_map]
  have := h.len
  omega
theorem RRep.rd (h : RRep W w b g A k c es m0 m1 m3 m5 m7 m8) : RdV w w.heap.size A k es := by
  have := h.own; have h2 := h.len
  subst h2
  exact OwnV.rd this h.ms
theorem RRep.below (h : RRep W w b g A k c es m0 m1 m3 m5 m7 m8) (hb : Below w.heap.size w w') : RRep W w' b g A k c es m0 m1 m3 m5 m7 m8 :=
  ⟨h.blk.below hb, h.com, h.own.below hb, h.len, h.ms, h.st, h.ok, h.lo, h.bel.trans (hb.mono h.bel.size)⟩
theorem RRep.lt (h : RRep W w b g A k c es m0 m1 m3 m5 m7 m8) : ∀ q, gaS b A q → W.heap.size ≤ q ∧ q < w.heap.size := by
  rintro q (rfl | ⟨o, rfl⟩)
  · exact ⟨h.lo, h.blk.lt⟩
  · rcases own_blk h.own with ⟨h1, _⟩ | ⟨q', cur, h1, h2, h3⟩
    · cases h1
    · injection h1 with h1; injection h1 with h1; subst h1; exact ⟨h2, h3.lt⟩
theorem RRep.keeps {S0 : Nat → Prop} (h : RRep W w b g A k c es m0 m1 m3 m5 m7 m8) (hk : Keeps S0 w w') (hn : ∀ q, gaS b A q → ¬ S0 q) (hB : Below W.heap.size W w') : RRep W w' b g A k c es m0 m1 m3 m5 m7 m8 := by
  refine ⟨h.blk.keeps hk (hn _ (.inl rfl)), h.com, ?_, h.len, h.ms, h.st, h.ok, h.lo, hB⟩
  refine ⟨h.own.1, ?_⟩
  rcases h.own.2 with h2 | ⟨q, cap, cur, q1, q2, q3, q4⟩
  · exact .inl h2
  · injection q1 with q1 q5 q6
    refine .inr ⟨q, cap, cur, by rw [q1, q6], q2, ?_, q4⟩
    exact (hk.block q (Array.getElem?_eq_some_iff.1 q3).1 (hn q (.inr ⟨0, q1⟩))).trans q3
theorem RthAt.below (h : RthAt W w S b g) (hb : Below w.heap.size w w') : RthAt W w' S b g := by
  obtain ⟨A, k, c, es, m0, m1, m3, m5, m7, m8, h1, h2⟩ := h
  exact ⟨A, k, c, es, m0, m1, m3, m5, m7, m8, h1.below hb, h2⟩
theorem RthAt.ok (h : RthAt W w S b g) : g.Ok := by
  obtain ⟨A, k, c, es, m0, m1, m3, m5, m7, m8, h1, h2⟩ := h; exact h1.ok
theorem RthAt.bel (h : RthAt W w S b g) : Below W.heap.size W w := by
  obtain ⟨A, k, c, es, m0, m1, m3, m5, m7, m8, h1, h2⟩ := h; exact h1.bel
theorem RthAt.lt (h : RthAt W w S b g) : ∀ q, S q → W.heap.size ≤ q ∧ q < w.heap.size := by
  obtain ⟨A, k, c, es, m0, m1, m3, m5, m7, m8, h1, rfl⟩ := h; exact h1.lt
theorem RthAt.keeps {S0 : Nat → Prop} (h : RthAt W w S b g) (hk : Keeps S0 w w') (hn : ∀ q, S q → ¬ S0 q) (hB : Below W.heap.size W w') : RthAt W w' S b g := by
  obtain ⟨A, k, c, es, m0, m1, m3, m5, m7, m8, h1, rfl⟩ := h
  exact ⟨A, k, c, es, m0, m1, m3, m5, m7, m8, h1.keeps hk hn hB, rfl⟩
end
/-- a gather of the document's behind a call -/
def GotRa (W w : World) (S : Nat → Prop) (b : Nat) (g : Gm) (w' : World) : Prop := ∃ S', RthAt W w' S' b g ∧ Adv S w S' w'
def RotNew (W w : World) (g : Gm) (e : Ending) (w' : World) : Prop := ∃ b S, e = .returned (.pointer (some ⟨b, 0, none⟩)) ∧ RthAt W w' S b g ∧ Below w.heap.size w w' ∧ ∀ q, S q → w.heap.size ≤ q
set_option maxRecDepth 100000 in
theorem rhas_any {W w : World} {S : Nat → Prop} {b : Nat} {g : Gm} (h : RthAt W w S b g) (z : Int) (h0 : 0 ≤ z) :
    Calls Try.prog 37 #[.pointer (some ⟨b, 0, none⟩), .int .i64 z] w fun e w' => e = .returned (.bool ((Gm.came g.l).testBit z.toNat)) ∧ w = w' := by
  obtain ⟨A, k, c, es, m0, m1, m3, m5, m7, m8, h1, rfl⟩ := h
  have c3 := h1.blk.cell 3
  simp [rgC] at c3
  have HR := Lib.hid h1.rd
  have HL := Lib.hid h1.len
  have H1 := Lib.hid h1
  have h7 := h1.few
  obtain ⟨r, hr⟩ : ∃ r, (Gm.came g.l).testBit z.toNat = r := ⟨_, rfl⟩
  have HRR := Lib.hid hr
  rw [hr]
  clear h1 hr
  go_enter Try.func37, Try.ntmps37
  go_wp2_with fail
  go_loopw [5] (fun i wr => ∃ j : Nat, j ≤ k ∧ i = .int .i64 (j : Int) ∧ Hid (∀ q cs, q < j → es[q]? = some cs → (svOf cs).frm ≠ z) ∧ w = wr) (fun i _ => k - (intOf i).toNat)
  case atStart => exact ⟨0, by omega, rfl, Lib.hid (fun q cs hq => absurd hq (by omega)), rfl⟩
  case round =>
    obtain ⟨j, hj, rfl, HN, rfl⟩ := hrel
    by_cases hlt : j < k
    · obtain ⟨cs, hcs⟩ : ∃ cs, es[j]? = some cs := ⟨_, List.getElem?_eq_getElem (by have := HL.out; omega)⟩
      obtain ⟨q, o, hA, hq, hr, hms⟩ := HR.out.at hcs
      have x1 := hr 1 _ hms.c1
      obtain ⟨fr, hfr⟩ : ∃ z, (svOf cs).frm = z := ⟨_, rfl⟩
      rw [hfr] at x1
      have HFR := Lib.hid hfr
      have HCS := Lib.hid hcs
      subst hA
      clear hr hms hfr hcs hq
      by_cases he : fr = z
      · subst he
        have hrt : r = true := by
          rw [← HRR.out]
          refine (Gm.came_bit _ _).2 ⟨svOf cs, ?_, by rw [HFR.out]⟩
          rw [← H1.out.st]
          exact List.mem_map_of_mem (List.mem_of_getElem? HCS.out)
        subst hrt
        go_wp2_with fail
        go_ret
        exact ⟨rfl, rfl⟩
      · have hE : (fr == z) = false := by simpa using he
        have HE := Lib.hid he
        clear he
        go_wp2_with fail
        go_roundw
        case rel =>
          refine ⟨j + 1, by omega, by go_num, Lib.hid (fun q cs' hq hc => ?_), trivial⟩
          rcases Nat.lt_or_ge q j with h1 | h1
          · exact HN.out q cs' h1 hc
          · obtain rfl : q = j := by omega
            rw [HCS.out] at hc
            injection hc with hc
            subst hc
            rw [HFR.out]; exact HE.out
        case measure => simp [intOf]; omega
    · have hrf : r = false := by
        cases hb : r
        · rfl
        · rw [hb] at HRR
          obtain ⟨s, hs, he⟩ := (Gm.came_bit _ _).1 HRR.out
          have hs0 := (H1.out.ok.st s hs).2.1
          rw [← H1.out.st] at hs
          obtain ⟨cs, hc, rfl⟩ := List.mem_map.1 hs
          obtain ⟨q, hq⟩ := List.getElem?_of_mem hc
          have hql := (List.getElem?_eq_some_iff.1 hq).1
          exact absurd (show (svOf cs).frm = z by omega) (HN.out q cs (by have := HL.out; omega) hq)
      subst hrf
      go_wp2_with fail
      go_ret
      exact ⟨rfl, rfl⟩
end Go.Proofs.Ytneehnoolhadbaa

namespace Go.Proofs.Ytneehnoolhadbaa
open Go.RowKit
set_option linter.unusedVariables false
set_option linter.unusedSimpArgs false
theorem upto_eq {m : Int} {n : Nat} (hm : m / 2 ^ n = 0) (hn : n ≤ 7) : Vw.upto m n = Vw.mem m := by
  unfold Vw.upto Vw.mem
  rw [Vw.members_low hm hn]
set_option maxRecDepth 100000 in
theorem rabsent_any {W w : World} {S : Nat → Prop} {b : Nat} {g : Gm} (h : RthAt W w S b g) {l : List Int} (hl : Vw.mem (g.lacking : Int) = l) :
    Calls Try.prog 25 #[.pointer (some ⟨b, 0, none⟩)] w (MadeI w w l) := by
  have hok := h.ok
  have hlow : ((g.lacking : Nat) : Int) / 2 ^ g.n = 0 := by
    have : g.lacking < 2 ^ g.n := Nat.lt_of_le_of_lt Nat.and_le_left (by unfold Gm.full; have : 0 < 2 ^ g.n := Nat.pow_pos (by decide); omega)
    have e : ((g.lacking : Nat) : Int) / 2 ^ g.n = ((g.lacking / 2 ^ g.n : Nat) : Int) := by simp
    rw [e, Nat.div_eq_of_lt this]; rfl
  have hup : Vw.upto (g.lacking : Int) g.n = l := by rw [← hl]; exact upto_eq hlow hok.n7
  have hbit : ∀ i, (g.lacking : Int) / 2 ^ i % 2 = if (decide (i < g.n) && !(Gm.came g.l).testBit i) = true then 1 else 0 := by
    intro i
    have h1 := Vw.bit_nat g.lacking i
    rw [hok.lack_bit] at h1
    unfold Vw.bit at h1
    cases hb : (decide (i < g.n) && !(Gm.came g.l).testBit i)
    · rw [hb] at h1; have := of_decide_eq_false h1; rw [if_neg (by decide)]; omega
    · rw [hb] at h1; have := of_decide_eq_true h1; rw [if_pos rfl]; exact this
  have HBIT := Lib.hid hbit
  obtain ⟨x, hx⟩ : ∃ x, g.lacking = x := ⟨_, rfl⟩
  rw [hx] at hup HBIT
  obtain ⟨n, hn⟩ : ∃ n, g.n = n := ⟨_, rfl⟩
  have hn7 : n ≤ 7 := by rw [← hn]; exact hok.n7
  rw [hn] at hup HBIT
  have HUP := Lib.hid hup
  have HC := Lib.hid (fun z hz => rhas_any h z hz)
  have c0 : w.cell? ⟨b, 0, none⟩ = some (.int .i64 (n : Int)) := by
    obtain ⟨A, k, c, es, m0, m1, m3, m5, m7, m8, h1, rfl⟩ := h
    have := h1.blk.cell 0
    simpa [rgC, hn] using this
  have HH := Lib.hid h
  clear h hl hok hlow hup hbit hx hn
  go_enter Try.func25, Try.ntmps25
  go_wp2_with fail
  go_loopw [3, 4] (fun o i wr => ∃ (j q : Nat) (A : Option Addr) (c : Nat), j ≤ n ∧ i = .int .i64 (j : Int) ∧ o = .slice A q c ∧ Hid (q = (Vw.upto (x : Int) j).length) ∧ Hid (OwnI w wr A q c (Vw.upto (x : Int) j)) ∧ Hid (Below w.heap.size w wr)) (fun _ i _ => n - (intOf i).toNat)
  case atStart => exact ⟨0, 0, none, 0, by omega, rfl, rfl, Lib.hid rfl, Lib.hid (ownI_nil _ _), Lib.hid (Below.refl _ _)⟩
  case round =>
    obtain ⟨j, q, A, c, hj, rfl, rfl, HN, HO, HB⟩ := hrel
    have c0' : wr.cell? ⟨b, 0, none⟩ = some (.int .i64 (n : Int)) := (HB.out.cell (p := ⟨b, 0, none⟩) (by have := HH.out.lt b (by obtain ⟨A, k, c, es, m0, m1, m3, m5, m7, m8, h1, rfl⟩ := HH.out; exact .inl rfl); exact this.2)).trans c0
    by_cases hlt : j < n
    · have HC := Lib.hid (rhas_any (HH.out.below HB.out) (j : Int) (by omega))
      rw [show ((j : Int)).toNat = j from rfl] at HC
      have hq7 : q ≤ 7 := by have := Vw.upto_len (x : Int) j; have := HN.out; omega
      have hb := HBIT.out j
      rw [decide_eq_true hlt] at hb
      cases hbt : (Gm.came g.l).testBit j
      · rw [hbt] at HC hb
        have HZ := Lib.hid hb
        clear hb hbt
        go_wp2_with (first
          | (go_at_call 37; refine HC.out.mono ?_; rintro e w1 ⟨rfl, rfl⟩)
          | (at_builtin
             refine wpList_append_cells (W := w) cellI (.tmp 17) (.tmp 19) rfl (by rfl) rfl (ownsRow_below HO.out ((Below.refl _ _).alloc (Nat.le_refl _) _)) rfl (Rd.oneAt _ _ _ (by simp)) (by intro u hu; simp at hu; subst hu; rfl) (by omega) (by omega) (HB.out.alloc HB.out.size _) ?_
             intro A1 c1 w1 hown1 hB1 hg1)
          | fail)
        go_roundw
        case rel => exact ⟨j + 1, q + 1, A1, c1, by omega, by go_num, rfl, Lib.hid (by rw [Vw.upto_yes HZ.out, List.length_append]; have := HN.out; simp; omega), Lib.hid (by rw [Vw.upto_yes HZ.out]; simpa [OwnI, iv] using hown1), Lib.hid hB1⟩
        case measure => simp [intOf]; omega
      · rw [hbt] at HC hb
        have HZ := Lib.hid hb
        clear hb hbt
        go_wp2_with (first
          | (go_at_call 37; refine HC.out.mono ?_; rintro e w1 ⟨rfl, rfl⟩)
          | fail)
        go_roundw
        case rel => exact ⟨j + 1, q, A, c, by omega, by go_num, rfl, Lib.hid (by rw [Vw.upto_no HZ.out]; exact HN.out), Lib.hid (by rw [Vw.upto_no HZ.out]; exact HO.out), HB⟩
        case measure => simp [intOf]; omega
    · obtain rfl : j = n := by omega
      have hn := HN.out
      subst hn
      go_wp2
      go_ret
      rw [HUP.out] at HO ⊢
      exact ⟨A, c, rfl, HO.out, HB.out, HB.out⟩
end Go.Proofs.Ytneehnoolhadbaa

