/- SessRef SessRef2 -/
import Derived.Test.YtlgpglhbbkikpaaGreatT00
import Derived.Test.YtlgpglhbbkikpaaGreatT01
import Derived.Deep.CutBlock
import Derived.Deep.RegionLaw
namespace Go.Proofs.YtlgpglhbbkikpaaGreat
open Go.RowKit
set_option linter.unusedVariables false
set_option maxRecDepth 100000 in
theorem refNamed_any (w : World) (s q : Int) :
 Calls Tryz.prog 94 #[.int .i64 s, .int .i64 q] w fun e w' => e = .returned (.bool (decide (Tb.named s q))) /\ w = w' := by
 have bad : ¬ (1 <= s /\ 1 <= q /\ s <= 1073741824 /\ q <= 1073741824) -> decide (Tb.named s q) = false := fun h => decide_eq_false h
 have good : (1 <= s /\ 1 <= q /\ s <= 1073741824 /\ q <= 1073741824) -> decide (Tb.named s q) = true := fun h => decide_eq_true h
 by_cases h1 : 1 <= s
 · by_cases h2 : 1 <= q
   · by_cases h3 : s <= 1073741824
     · by_cases h4 : q <= 1073741824
       · rw [good (by omega)]
         clear bad good
         go_enter Tryz.func94, Tryz.ntmps94
         go_wp2_with fail
         go_ret
         exact ⟨rfl, rfl⟩
       · rw [bad (by omega)]
         clear bad good
         go_enter Tryz.func94, Tryz.ntmps94
         go_wp2_with fail
         go_ret
         exact ⟨rfl, rfl⟩
     · rw [bad (by omega)]
       clear bad good
       go_enter Tryz.func94, Tryz.ntmps94
       go_wp2_with fail
       go_ret
       exact ⟨rfl, rfl⟩
   · rw [bad (by omega)]
     clear bad good
     go_enter Tryz.func94, Tryz.ntmps94
     go_wp2_with fail
     go_ret
     exact ⟨rfl, rfl⟩
 · rw [bad (by omega)]
   clear bad good
   go_enter Tryz.func94, Tryz.ntmps94
   go_wp2_with fail
   go_ret
   exact ⟨rfl, rfl⟩
set_option maxRecDepth 100000 in
theorem refAt_any (w : World) {A : Option Addr} {n c B : Nat} {ls : List Ls} (s : Int) (hn : n <= 100000) (h : RdL w B A n ls) :
 Calls Tryz.prog 96 #[.slice A n c, .int .i64 s] w fun e w' => (∃ i : Nat, e = .returned (.int .i64 (i : Int)) /\ Tb.At ls s i) /\ w = w' := by
 have HL := hD h.length
 have H := hD h
 clear h
 go_enter Tryz.func96, Tryz.ntmps96
 go_wp2
 go_loopw [5] (fun i wr => ∃ k : Nat, k <= n /\ i = .int .i64 k /\ Hid (∀ (j : Nat) (l : Ls), j < k -> ls[j]? = some l -> l.s < s) /\ w = wr) (fun i _ => n - (intOf i).toNat)
 case atStart => exact ⟨0, Nat.zero_le _, rfl, hD (fun j l hj => absurd hj (by omega)), rfl⟩
 case round =>
  obtain ⟨k, hk, rfl, HS, rfl⟩ := hrel
  by_cases hlt : k < n
  · obtain ⟨b, o, l, A1, c1, rfl, hl, hc, _, _, _, _, _⟩ := H.out.at hlt
    have hv : IntKind.i64.wrap ((k : Int) + 1) = (k : Int) + 1 := IntWalk.i64_in _ (by omega)
    have HZ := hD hl
    clear hl
    by_cases he : l.s < s
    · have HE := hD he
      go_wp2
      go_roundw
      case rel =>
       refine ⟨k + 1, by omega, by go_num, hD (fun j m hj hm => ?_), trivial⟩
       rcases Nat.lt_or_ge j k with h1 | h1
       · exact HS.out j m h1 hm
       · obtain rfl : j = k := by omega
         rw [HZ.out] at hm
         injection hm with hm
         subst hm
         exact HE.out
      case measure => simp [intOf]; omega
    · have HE := hD he
      go_wp2
      go_ret
      refine ⟨⟨k, rfl, by rw [HL.out]; exact hk, HS.out, fun m hm => ?_⟩, rfl⟩
      rw [HZ.out] at hm
      injection hm with hm
      subst hm
      have := HE.out
      omega
  · obtain rfl : k = n := by omega
    go_wp2
    go_ret
    exact ⟨⟨k, rfl, by rw [HL.out]; exact Nat.le_refl _, HS.out, fun m hm => by rw [List.getElem?_eq_none (by rw [HL.out]; exact Nat.le_refl _)] at hm; cases hm⟩, rfl⟩
set_option maxRecDepth 100000 in
theorem refResult_raw (w : World) {A : Option Addr} {n c B : Nat} {l : List Nat} (e N : Int) (hn : Lim 0 n) (h : Rd w B A n (bv l)) :
 Calls Tryz.prog 97 #[resV e A n c N] w (GotR w w e l N) := by
 have b0 : Below w.heap.size w ((w.alloc (.cells #[.int .i64 e, .slice A n c, .int .i64 N] 41)).alloc (.cells zeroR 41)) := ((Below.refl _ _).alloc lR _).alloc (by simp) _
 have H := hD (h.fit.below b0)
 have HB := hD b0
 have HK1 := hD ((Blk.new w 41 #[.int .i64 e, .slice A n c, .int .i64 N]).alloc (.cells zeroR 41))
 have HK2 := hD (Blk.new (w.alloc (.cells #[.int .i64 e, .slice A n c, .int .i64 N] 41)) 41 zeroR)
 rw [World.size_alloc] at HK2
 clear h b0
 unfold resV
 go_enter Tryz.func97, Tryz.ntmps97
 go_wp2_with fail
 refine (ownref_any (W := w) hn H.out HB.out).mono ?_
 rintro en w1 ⟨A1, c1, rfl, ho1, hB1, hb1⟩
 have HK1 := hD (HK1.out.below hb1)
 have HK2 := hD (HK2.out.below hb1)
 have HO := hD ho1
 have HB1 := hD hB1
 clear ho1 hB1 hb1 H HB
 obtain ⟨x0, x1, x2, f0, f1, f2⟩ := three HK1.out
 obtain ⟨y0, y1, y2, g0, g1, g2⟩ := three HK2.out
 go_wp2_with fail
 have HK2b : Blk (w1.setCell ⟨w.heap.size, 1, none⟩ (.slice A1 l.length c1)) (w.heap.size + 1) 41 zeroR := HK2.out.set_other (by omega)
 obtain ⟨k1, k2, k3⟩ := put3 HK2b (.int .i64 e) (.slice A1 l.length c1) (.int .i64 N)
 refine bodyPost_ret (results_cell_row rfl _ _ _ _ _ _ _ rfl k1 Tryz.underlying41 rfl (by kernel_rfl)) rfl ?_
 have h1 : Below w.heap.size w (w1.setCell ⟨w.heap.size, 1, none⟩ (.slice A1 l.length c1)) := HB1.out.setCell (p := ⟨w.heap.size, 1, none⟩) lR _
 have h2 := k2 w (by omega) h1
 exact ⟨A1, c1, rfl, k3 _ _ _ _ _ _ (own_set_t HO.out HK1.out (by decide)) (by decide), h2, h2⟩
theorem refResult_any {W w : World} {A : Option Addr} {n c B : Nat} {l : List Nat} (e N : Int) (hn : Lim 0 n) (h : Rd w B A n (bv l)) (hB : Below W.heap.size W w) :
 Calls Tryz.prog 97 #[resV e A n c N] w (GotR W w e l N) :=
 (refResult_raw w e N hn h).mono fun en w' ⟨A', c', h1, h2, h3, h4⟩ => ⟨A', c', h1, own_moreL hB.size h2, hB.trans (h3.mono hB.size), h4⟩
theorem Rd.lastAt (w : World) (A : Option Addr) (c : Nat) (l : Ls) (t : TypeId) {g : Nat} (hg : w.heap.size = g) : Rd (w.alloc (.cells #[.int .i64 l.s, .int .i64 l.q, .int .i64 l.e, .slice A l.v.length c, .int .i64 l.n] t)) (g + 1) (some ⟨g, 0, none⟩) (1 * 5) (lastC A c l) := by
 subst hg; exact Rd.made w #[.int .i64 l.s, .int .i64 l.q, .int .i64 l.e, .slice A l.v.length c, .int .i64 l.n] t (0, 0) 5 rfl
theorem lastC_one (A : Option Addr) (c : Nat) (l : Ls) : ∀ u ∈ lastC A c l, u.oneCell' = true := by
 intro u hu
 unfold lastC at hu
 simp at hu
 rcases hu with rfl | rfl | rfl | rfl | rfl <;> rfl
set_option maxHeartbeats 2000000 in
set_option maxRecDepth 100000 in
theorem refTable_raw (ls : List Ls) (A : Option Addr) (n c B : Nat) (hn : n <= 100000) (hL : LimLs ls) (w : World) (hr : RdL w B A n ls) :
 Calls Tryz.prog 30 #[.slice A n c] w (GotL w w ls) := by
 have HL := hD hL
 have HR := hD hr.fit
 have hlen := hr.length
 clear hr hL
 go_enter Tryz.func30, Tryz.ntmps30
 go_wp2_with fail
 go_loopw [3, 4] (fun s3 s4 wr => ∃ (k c' : Nat) (A' : Option Addr), k <= n /\ s4 = .int .i64 (k : Int) /\ s3 = .slice A' k c' /\ Hid (OwnL w wr A' k c' (ls.take k)) /\ Hid (Below w.heap.size w wr)) (fun _ s4 _ => n - (intOf s4).toNat)
 case atStart => exact ⟨0, 0, none, Nat.zero_le _, rfl, rfl, hD (by simpa using OwnL.nil w w), hD (Below.refl _ _)⟩
 case round =>
  obtain ⟨k, c', A', hk, rfl, rfl, HO, HB⟩ := hrel
  by_cases hlt : k < n
  · obtain ⟨b, o, l, A1, c1, rfl, hl, y0, y1, y2, y3, y4, hrd⟩ := ((HR.out.below HB.out).fit).at hlt
    have hl1 : Lim 0 l.v.length := HL.out l (List.mem_of_getElem? hl)
    have hblt := World.block_lt_of_cell? _ _ y0
    have HC : Hid (∀ wx, Below wr.heap.size wr wx -> wx.cell? ⟨b, o + k * 5, none⟩ = some (.int .i64 l.s) /\ wx.cell? ⟨b, o + k * 5 + 1, none⟩ = some (.int .i64 l.q) /\ wx.cell? ⟨b, o + k * 5 + 2, none⟩ = some (.int .i64 l.e) /\ wx.cell? ⟨b, o + k * 5 + 3, none⟩ = some (.slice A1 l.v.length c1) /\ wx.cell? ⟨b, o + k * 5 + 4, none⟩ = some (.int .i64 l.n)) := hD (fun wx hb =>
     ⟨(hb.cell (p := ⟨b, o + k * 5, none⟩) hblt).trans y0, (hb.cell (p := ⟨b, o + k * 5 + 1, none⟩) hblt).trans y1, (hb.cell (p := ⟨b, o + k * 5 + 2, none⟩) hblt).trans y2, (hb.cell (p := ⟨b, o + k * 5 + 3, none⟩) hblt).trans y3, (hb.cell (p := ⟨b, o + k * 5 + 4, none⟩) hblt).trans y4⟩)
    have HRD := hD hrd
    have HP := hD hl
    clear hrd hl y0 y1 y2 y3 y4
    go_upto_region 5 with fail
    have hc0 := HC.out wr.drew (Below.refl _ _).drew
    obtain ⟨z0, z1, z2, z3, z4⟩ := hc0
    go_region_law (first
     | (refine step_append_S (W := w) cellL (.tmp 11) (.tmp 29) rfl rfl (by rfl) (ownsRow_below hv1 ((Below.refl _ _).alloc lR _)) (by rfl) (Rd.lastAt _ A4 c4 l _ rfl) (lastC_one _ _ _) (by omega) (by omega) (hB1.alloc hB1.size _) ?_
        intro A3 c3 w3 hown3 hB3 hg3)
     | (rw [if_pos (by kernel_rfl)]; go_simp; go_at_call 97; refine (refResult_any (W := w) _ _ hl1 HRD.out.drew HB.out.drew).mono ?_; rintro e w1 ⟨A4, c4, rfl, ho1, hB1, hb1⟩; obtain ⟨vs, hv1, hv2⟩ := (HO.out.below (Below.refl _ _).drew).below hb1; obtain ⟨z0, z1, z2, z3, z4⟩ := HC.out w1 ((Below.refl _ _).drew.trans hb1); unfold resV; go_simp))
    all_goals go_wp2_with fail
    all_goals go_roundw
    all_goals first
     | (simp only [intOf]; omega)
     | (refine ⟨k + 1, c3, A3, by omega, by go_num, rfl, hD ?_, hD hB3⟩
        have b1 : Below w1.heap.size w1 (w1.alloc (.cells #[.int .i64 l.s, .int .i64 l.q, .int .i64 l.e, .slice A4 l.v.length c4, .int .i64 l.n] 71)) := (Below.refl _ _).alloc lR _
        refine ⟨vs ++ lastC A4 c4 l, hown3, ?_⟩
        rw [List.take_add_one, HP.out]
        exact ((hv2.snoc ho1).below b1).grown (by decide) (ownsRow_below hv1 b1) hg3)
  · obtain rfl : k = n := by omega
    go_wp2_with fail
    go_ret
    have HO2 := HO.out
    rw [List.take_of_length_le (by omega)] at HO2
    subst hlen
    exact ⟨A', c', rfl, HO2, HB.out, HB.out⟩
theorem refTable_any {W w : World} {ls : List Ls} {A : Option Addr} {n c B : Nat} (hn : n <= 100000) (hL : LimLs ls) (hr : RdL w B A n ls) (hB : Below W.heap.size W w) :
 Calls Tryz.prog 30 #[.slice A n c] w (GotL W w ls) :=
 (refTable_raw ls A n c B hn hL w hr).mono fun e w' h => GotL.of hB h
theorem results_cell_tmp {P : Program} {fn : Func} {u p : Tmp} {ty : TypeId} (h : fn.results = #[.cell p ty, .tmp u]) (tmps : Array Value) (w : World) (g : Nat) (t : TypeId) (cs : Array Value) (d : TypeDesc)
 (hp : tmps.getD p undef = .pointer (some ⟨g, 0, none⟩)) (hg : Blk w g t cs)
 (hu : P.underlying ty = some d) (hd : (match d with | .struct _ | .array _ _ => true | _ => false) = true) (hi : (P.info? ty).map (·.size) = some cs.size) :
 (results fn tmps).run P w = .ok (.tuple #[.agg cs, tmps.getD u undef]) w := by
 have hp' : tmps[p]?.getD undef = .pointer (some ⟨g, 0, none⟩) := by simpa using hp
 simp [results, h, hp', asAddr, run_loadVar_row w g t ty cs (0, 0) d hg hu hd hi]
theorem lookDone {w w2 : World} {A1 : Option Addr} {c1 : Nat} {l : List Nat} {e N k : Int} {en : Ending} (HK : Blk w2 w.heap.size 41 zeroR) (hB : Below w.heap.size w w2) (ho : OwnB w w2 A1 l.length c1 l)
 (he : en = .returned (.tuple #[.agg #[.int .i64 e, .slice A1 l.length c1, .int .i64 N], .int .i64 k])) :
 GotRK w w e l N k en (((w2.setCell ⟨w.heap.size, 0, none⟩ (.int .i64 e)).setCell ⟨w.heap.size, 1, none⟩ (.slice A1 l.length c1)).setCell ⟨w.heap.size, 2, none⟩ (.int .i64 N)) := by
 obtain ⟨k1, k2, k3⟩ := put3 HK (.int .i64 e) (.slice A1 l.length c1) (.int .i64 N)
 have h2 := k2 w lR hB
 exact ⟨A1, c1, he, k3 _ _ _ _ _ _ ho (by decide), h2, h2⟩
set_option maxHeartbeats 2000000 in
set_option maxRecDepth 100000 in
theorem refLook_raw {w : World} {ls : List Ls} {A : Option Addr} {n c B : Nat} (s q : Int) (hn : n <= 100000) (hL : LimLs ls) (hr : Tb.Rises ls) (h : RdL w B A n ls) :
 Calls Tryz.prog 28 #[.slice A n c, .int .i64 s, .int .i64 q] w (GotRK w w (Tb.look ls s q).e (Tb.look ls s q).v (Tb.look ls s q).n (Tb.look ls s q).k) := by
 have HL := hD h.length
 have b0 : Below w.heap.size w (w.alloc (.cells zeroR 41)) := (Below.refl _ _).alloc lR _
 have H := hD (h.fit.below b0)
 have HLI := hD hL
 have HRI := hD hr
 have HB := hD b0
 have HK := hD (Blk.new w 41 zeroR)
 clear h hL hr b0
 generalize hres : Tb.look ls s q = r
 have HRES := hD hres
 clear hres
 by_cases hnm : Tb.named s q
 · have HN := hD (show decide (Tb.named s q) = true from decide_eq_true hnm)
   have HNM := hD hnm
   clear hnm
   go_enter Tryz.func28, Tryz.ntmps28
   go_wp2_with fail
   refine (refNamed_any _ s q).mono ?_
   rintro e w1 ⟨rfl, rfl⟩
   rw [HN.out]
   go_wp2_with fail
   refine (refAt_any _ s hn H.out).mono ?_
   rintro e w1 ⟨⟨i, rfl, hat⟩, rfl⟩
   have hi := hat.le
   rw [HL.out] at hi
   have HA := hD hat
   clear hat
   have HNO : Hid ((∀ l, ls[i]? = some l -> l.s ≠ s) -> r = if 8 <= ls.length then ⟨9, [], 0, 2⟩ else ⟨0, [], 0, 0⟩) := hD (fun hno => by
    rw [<- HRES.out]
    unfold Tb.look
    rw [if_pos HNM.out, HA.out.here_none HRI.out hno])
   have HYES : Hid (∀ l, ls[i]? = some l -> l.s = s -> r = if q < l.q then ⟨8, [], 0, 2⟩ else if q = l.q then ⟨l.e, l.v, l.n, 1⟩ else ⟨0, [], 0, 0⟩) := hD (fun l hl hs => by
    rw [<- HRES.out]
    unfold Tb.look
    rw [if_pos HNM.out, HA.out.here_some HRI.out hl hs])
   by_cases hin : i = n
   · subst hin
     have HE := hD (HNO.out (HA.out.none_eq HL.out.symm))
     by_cases h8 : (8 : Int) <= (i : Int)
     · have HR : Hid (r = ⟨9, [], 0, 2⟩) := hD (by rw [HE.out, if_pos (by rw [HL.out]; omega)])
       go_wp2_with fail
       refine (bad_any _ 9).mono ?_
       rintro e w3 ⟨rfl, hb3⟩
       unfold resV
       have HK2 := hD (HK.out.below hb3)
       have HB2 := hD (HB.out.trans (hb3.mono HB.out.size))
       clear hb3
       obtain ⟨x0, x1, x2, f0, f1, f2⟩ := three HK2.out
       go_wp2_with fail
       have hr := HR.out
       subst hr
       refine bodyPost_ret (results_cell_tmp rfl _ _ _ _ _ _ rfl (put3 HK2.out _ _ _).1 Tryz.underlying41 rfl (by kernel_rfl)) rfl ?_
       exact lookDone HK2.out HB2.out (own_nil _ _) rfl
     · have HR : Hid (r = ⟨0, [], 0, 0⟩) := hD (by rw [HE.out, if_neg (by rw [HL.out]; omega)])
       go_wp2_with fail
       have hr := HR.out
       subst hr
       refine bodyPost_ret (results_cell_tmp rfl _ _ _ _ _ _ rfl HK.out Tryz.underlying41 rfl (by kernel_rfl)) rfl ?_
       exact ⟨none, 0, rfl, own_nil _ _, HB.out, HB.out⟩
   · have hlt : i < n := by omega
     have hne : ((i : Int) == (n : Int)) = false := by simp; omega
     have hlti : (i : Int) < (n : Int) := by omega
     obtain ⟨b, o, l, A1, c1, rfl, hl, y0, y1, y2, y3, y4, hrd⟩ := H.out.at hlt
     have HRD := hD hrd
     have HP := hD hl
     have hl1 : Lim 0 l.v.length := HLI.out l (List.mem_of_getElem? hl)
     clear hrd hl
     by_cases hs : l.s = s
     · subst hs
       have HE := hD (HYES.out l HP.out rfl)
       by_cases hq : q < l.q
       · have HR : Hid (r = ⟨8, [], 0, 2⟩) := hD (by rw [HE.out, if_pos hq])
         go_wp2_with fail
         refine (bad_any _ 8).mono ?_
         rintro e w3 ⟨rfl, hb3⟩
         unfold resV
         have HK2 := hD (HK.out.below hb3)
         have HB2 := hD (HB.out.trans (hb3.mono HB.out.size))
         clear hb3
         obtain ⟨x0, x1, x2, f0, f1, f2⟩ := three HK2.out
         go_wp2_with fail
         have hr := HR.out
         subst hr
         refine bodyPost_ret (results_cell_tmp rfl _ _ _ _ _ _ rfl (put3 HK2.out _ _ _).1 Tryz.underlying41 rfl (by kernel_rfl)) rfl ?_
         exact lookDone HK2.out HB2.out (own_nil _ _) rfl
       · by_cases hq2 : q = l.q
         · subst hq2
           have HR : Hid (r = ⟨l.e, l.v, l.n, 1⟩) := hD (by rw [HE.out, if_neg hq, if_pos rfl])
           go_wp2_with fail
           refine (refResult_any (W := w) _ _ hl1 HRD.out HB.out).mono ?_
           rintro e w3 ⟨A3, c3, rfl, ho3, hB3, hb3⟩
           unfold resV
           have HK2 := hD (HK.out.below hb3)
           have HB2 := hD hB3
           have HO := hD ho3
           clear hb3 hB3 ho3
           obtain ⟨x0, x1, x2, f0, f1, f2⟩ := three HK2.out
           go_wp2_with fail
           have hr := HR.out
           subst hr
           refine bodyPost_ret (results_cell_tmp rfl _ _ _ _ _ _ rfl (put3 HK2.out _ _ _).1 Tryz.underlying41 rfl (by kernel_rfl)) rfl ?_
           exact lookDone HK2.out HB2.out HO.out rfl
         · have hqb : (q == l.q) = false := by simpa using hq2
           have HR : Hid (r = ⟨0, [], 0, 0⟩) := hD (by rw [HE.out, if_neg hq, if_neg hq2])
           go_wp2_with fail
           have hr := HR.out
           subst hr
           refine bodyPost_ret (results_cell_tmp rfl _ _ _ _ _ _ rfl HK.out Tryz.underlying41 rfl (by kernel_rfl)) rfl ?_
           exact ⟨none, 0, rfl, own_nil _ _, HB.out, HB.out⟩
     · have hsb : (l.s == s) = false := by simpa using hs
       have HE := hD (HNO.out (fun m hm => by rw [HP.out] at hm; injection hm with hm; subst hm; exact hs))
       by_cases h8 : (8 : Int) <= (n : Int)
       · have HR : Hid (r = ⟨9, [], 0, 2⟩) := hD (by rw [HE.out, if_pos (by rw [HL.out]; omega)])
         go_wp2_with fail
         refine (bad_any _ 9).mono ?_
         rintro e w3 ⟨rfl, hb3⟩
         unfold resV
         have HK2 := hD (HK.out.below hb3)
         have HB2 := hD (HB.out.trans (hb3.mono HB.out.size))
         clear hb3
         obtain ⟨x0, x1, x2, f0, f1, f2⟩ := three HK2.out
         go_wp2_with fail
         have hr := HR.out
         subst hr
         refine bodyPost_ret (results_cell_tmp rfl _ _ _ _ _ _ rfl (put3 HK2.out _ _ _).1 Tryz.underlying41 rfl (by kernel_rfl)) rfl ?_
         exact lookDone HK2.out HB2.out (own_nil _ _) rfl
       · have HR : Hid (r = ⟨0, [], 0, 0⟩) := hD (by rw [HE.out, if_neg (by rw [HL.out]; omega)])
         go_wp2_with fail
         have hr := HR.out
         subst hr
         refine bodyPost_ret (results_cell_tmp rfl _ _ _ _ _ _ rfl HK.out Tryz.underlying41 rfl (by kernel_rfl)) rfl ?_
         exact ⟨none, 0, rfl, own_nil _ _, HB.out, HB.out⟩
 · have HN := hD (show decide (Tb.named s q) = false from decide_eq_false hnm)
   have HR : Hid (r = ⟨10, [], 0, 2⟩) := hD (by rw [<- HRES.out]; unfold Tb.look; rw [if_neg hnm])
   clear hnm
   go_enter Tryz.func28, Tryz.ntmps28
   go_wp2_with fail
   refine (refNamed_any _ s q).mono ?_
   rintro e w1 ⟨rfl, rfl⟩
   rw [HN.out]
   go_wp2_with fail
   refine (bad_any _ 10).mono ?_
   rintro e w3 ⟨rfl, hb3⟩
   unfold resV
   have HK2 := hD (HK.out.below hb3)
   have HB2 := hD (HB.out.trans (hb3.mono HB.out.size))
   clear hb3
   obtain ⟨x0, x1, x2, f0, f1, f2⟩ := three HK2.out
   go_wp2_with fail
   have hr := HR.out
   subst hr
   refine bodyPost_ret (results_cell_tmp rfl _ _ _ _ _ _ rfl (put3 HK2.out _ _ _).1 Tryz.underlying41 rfl (by kernel_rfl)) rfl ?_
   exact lookDone HK2.out HB2.out (own_nil _ _) rfl
theorem refLook_any {W w : World} {ls : List Ls} {A : Option Addr} {n c B : Nat} (s q : Int) (hn : n <= 100000) (hL : LimLs ls) (hr : Tb.Rises ls) (h : RdL w B A n ls) (hB : Below W.heap.size W w) :
 Calls Tryz.prog 28 #[.slice A n c, .int .i64 s, .int .i64 q] w (GotRK W w (Tb.look ls s q).e (Tb.look ls s q).v (Tb.look ls s q).n (Tb.look ls s q).k) :=
 (refLook_raw s q hn hL hr h).mono fun e w' h => GotRK.of hB h
end Go.Proofs.YtlgpglhbbkikpaaGreat
