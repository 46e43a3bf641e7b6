/- MachRefE -/
import Derived.Test.YtlfkgpllleogoaaMT11
import Derived.Test.YtlfkgpllleogoaaMT12
import Derived.Test.YtlfkgpllleogoaaMT14
import Derived.Deep.RegionHeld3
import Derived.Deep.RegionLaw
namespace Go.Proofs.Ytlfkgpllleogoaa
open Go.RowKit
set_option linter.unusedVariables false
theorem refput_in {W w : World} {l : List Nat} {A : Option Addr} {n c B : Nat} {N : Int} {l' : List Nat} (he : l ++ Pk.enc (Pk.held N) = l') (hn : Lim 20 n) (hr : Rd w B A n (bv l)) (hB : Below W.heap.size W w) :
    Calls Try.prog 66 #[.slice A n c, .int .i64 N] w (GotIn W w l') := by
  subst he
  exact (refnum_any l A n c B N hn w hr).mono fun e w' h => GotIn.of hB h
theorem refputb_in {W w : World} {l x : List Nat} {A : Option Addr} {n c B : Nat} {A' : Option Addr} {n' c' B' : Nat} {l' : List Nat} (he : l ++ Pk.encB x = l') (hr : Rd w B A n (bv l)) (hr' : Rd w B' A' n' (bv x)) (hn : Lim 20 (l.length + x.length)) (hB : Below W.heap.size W w) :
    Calls Try.prog 37 #[.slice A n c, .slice A' n' c'] w (GotIn W w l') := by
  subst he
  have h1 := hr.length
  have h2 := hr'.length
  have h3 := hn.out
  exact (refbytes_any l x A n c B A' n' c' B' (by unfold Lim; omega) (by unfold Lim; omega) (by unfold Lim; omega) w hr hr').mono fun e w' h => GotIn.of hB h
theorem len_num {l l' : List Nat} {k : Nat} {N : Int} (he : l ++ Pk.enc (Pk.held N) = l') (h : l.length ≤ k) : l'.length ≤ k + 9 := by
  subst he
  have := (Pk.enc_length (Pk.held N)).2; simp; omega
theorem len_byt {l l' x : List Nat} {k : Nat} (he : l ++ Pk.encB x = l') (h : l.length ≤ k) : l'.length ≤ k + 9 + x.length := by
  subst he
  have := encB_length x; simp; omega
set_option maxHeartbeats 4000000 in
set_option maxRecDepth 100000 in
theorem refPutEntry_raw {w : World} {l : List Nat} {A : Option Addr} {n c B : Nat} {ca : CA} {e : En} {B' : Nat} (hl : l.length ≤ 1000000) (hc : e.c.Fits) (h : Rd w B A n (bv l)) (h' : RdC w B' ca e.c) :
    Calls Try.prog 38 #[.slice A n c, entV ca e] w (GotIn w w (l ++ e.enc)) := by
  obtain ⟨Ak, ck, Av, cv, Ao, co⟩ := ca
  have hn : l.length = n := by have := h.length; simpa using this
  subst hn
  have b0 : Below w.heap.size w (w.alloc (.cells #[.int .i64 e.s, .int .i64 e.q, .int .i64 e.c.kind, .int .i64 e.c.who, .slice Ak e.c.key.length ck, .slice Av e.c.val.length cv, .slice Ao e.c.old.length co] 27)) := (Below.refl _ _).alloc (Nat.le_refl _) _
  have HL := Lib.hid hl
  have hend : Hid (l ++ e.enc = ((((((l ++ Pk.enc (Pk.held e.s)) ++ Pk.enc (Pk.held e.q)) ++ Pk.enc (Pk.held e.c.kind)) ++ Pk.enc (Pk.held e.c.who)) ++ Pk.encB e.c.key) ++ Pk.encB e.c.val) ++ Pk.encB e.c.old) := Lib.hid (by unfold En.enc; simp only [List.append_assoc])
  obtain ⟨l2, e2⟩ : ∃ x, l ++ Pk.enc (Pk.held e.s) = x := ⟨_, rfl⟩
  obtain ⟨l3, e3⟩ : ∃ x, l2 ++ Pk.enc (Pk.held e.q) = x := ⟨_, rfl⟩
  obtain ⟨l4, e4⟩ : ∃ x, l3 ++ Pk.enc (Pk.held e.c.kind) = x := ⟨_, rfl⟩
  obtain ⟨l5, e5⟩ : ∃ x, l4 ++ Pk.enc (Pk.held e.c.who) = x := ⟨_, rfl⟩
  obtain ⟨l7, e7⟩ : ∃ x, l5 ++ Pk.encB e.c.key = x := ⟨_, rfl⟩
  obtain ⟨l8, e8⟩ : ∃ x, l7 ++ Pk.encB e.c.val = x := ⟨_, rfl⟩
  obtain ⟨l9, e9⟩ : ∃ x, l8 ++ Pk.encB e.c.old = x := ⟨_, rfl⟩
  rw [e2, e3, e4, e5, e7, e8, e9] at hend
  have E2 := Lib.hid e2
  have E3 := Lib.hid e3
  have E4 := Lib.hid e4
  have E5 := Lib.hid e5
  have E7 := Lib.hid e7
  have E8 := Lib.hid e8
  have E9 := Lib.hid e9
  clear e2 e3 e4 e5 e7 e8 e9
  have HF := Lib.hid hc
  have HK := Lib.hid (Blk.new w 27 #[.int .i64 e.s, .int .i64 e.q, .int .i64 e.c.kind, .int .i64 e.c.who, .slice Ak e.c.key.length ck, .slice Av e.c.val.length cv, .slice Ao e.c.old.length co])
  have HR := Lib.hid (h.fit.below b0)
  have HC := Lib.hid (h'.fit.below b0)
  have HB := Lib.hid b0
  clear h h' hl hc b0
  unfold entV entC
  go_enter Try.func38, Try.ntmps38
  go_upto_region 1 with fail
  generalize w.alloc (.cells #[.int .i64 e.s, .int .i64 e.q, .int .i64 e.c.kind, .int .i64 e.c.who, .slice Ak e.c.key.length ck, .slice Av e.c.val.length cv, .slice Ao e.c.old.length co] 27) = wa at HK HR HC HB ⊢
  obtain ⟨x0, x1, x2, x3, x4, x5, x6⟩ := seven HK.out
  refine wp_region_held_drew (S := fun w' => Blk w' w.heap.size 27 #[.int .i64 e.s, .int .i64 e.q, .int .i64 e.c.kind, .int .i64 e.c.who, .slice Ak e.c.key.length ck, .slice Av e.c.val.length cv, .slice Ao e.c.old.length co]) (by kernel_rfl) HK.out.drew (fun _ => ?_)
  have hbd : Below wa.heap.size wa wa.drew := (Below.refl _ _).drew
  have HS := Lib.hid (HK.out.below hbd)
  have HR1 := Lib.hid (HR.out.drew)
  have HC1 := Lib.hid (HC.out.fit.below hbd).fit
  have HB1 := Lib.hid (HB.out.drew)
  clear hbd HK HR HC HB x0 x1 x2 x3 x4 x5 x6
  generalize wa.drew = w1 at HS HR1 HC1 HB1 ⊢
  have len1 := HL
  refine wpAnyH_take (i := 0) (v := .slice A l.length c) rfl (by kernel_rfl) (by kernel_rfl) (by kernel_rfl) (fun _ _ _ h => h) (Or.inl ⟨by kernel_rfl, fun w _ => by go_simp⟩) HS.out ?_
  refine wpAnyH_take (i := 1) (v := .pointer (some ⟨w.heap.size, 0, none⟩)) rfl (by kernel_rfl) (by kernel_rfl) (by kernel_rfl) (fun _ _ _ h => h) (Or.inl ⟨by kernel_rfl, fun w _ => by go_simp⟩) HS.out ?_
  refine wpAnyH_take (i := 4) (v := .pointer (some ⟨w.heap.size, 1, none⟩)) rfl (by kernel_rfl) (by kernel_rfl) (by kernel_rfl) (fun _ _ _ h => h) (Or.inl ⟨by kernel_rfl, fun w _ => by go_simp⟩) HS.out ?_
  refine wpAnyH_take (i := 7) (v := .pointer (some ⟨w.heap.size, 2, none⟩)) rfl (by kernel_rfl) (by kernel_rfl) (by kernel_rfl) (fun _ _ _ h => h) (Or.inl ⟨by kernel_rfl, fun w _ => by go_simp⟩) HS.out ?_
  refine wpAnyH_take (i := 8) (v := .pointer (some ⟨w.heap.size, 2, none⟩)) rfl (by kernel_rfl) (by kernel_rfl) (by kernel_rfl) (fun _ _ _ h => h) (Or.inl ⟨by kernel_rfl, fun w _ => by go_simp⟩) HS.out ?_
  refine wpAnyH_take (i := 11) (v := .pointer (some ⟨w.heap.size, 2, none⟩)) rfl (by kernel_rfl) (by kernel_rfl) (by kernel_rfl) (fun _ _ _ h => h) (Or.inl ⟨by kernel_rfl, fun w _ => by go_simp⟩) HS.out ?_
  refine wpAnyH_take (i := 12) (v := .pointer (some ⟨w.heap.size, 3, none⟩)) rfl (by kernel_rfl) (by kernel_rfl) (by kernel_rfl) (fun _ _ _ h => h) (Or.inl ⟨by kernel_rfl, fun w _ => by go_simp⟩) HS.out ?_
  refine wpAnyH_take (i := 2) (v := .int .i64 e.s) rfl (by kernel_rfl) (by kernel_rfl) (by kernel_rfl) (fun _ _ _ h => h) (Or.inl ⟨by kernel_rfl, fun w h => by obtain ⟨q0, q1, q2, q3, q4, q5, q6⟩ := seven h; go_simp⟩) HS.out ?_
  refine wpAnyH_take (i := 5) (v := .int .i64 e.q) rfl (by kernel_rfl) (by kernel_rfl) (by kernel_rfl) (fun _ _ _ h => h) (Or.inl ⟨by kernel_rfl, fun w h => by obtain ⟨q0, q1, q2, q3, q4, q5, q6⟩ := seven h; go_simp⟩) HS.out ?_
  refine wpAnyH_take (i := 9) (v := .int .i64 e.c.kind) rfl (by kernel_rfl) (by kernel_rfl) (by kernel_rfl) (fun _ _ _ h => h) (Or.inl ⟨by kernel_rfl, fun w h => by obtain ⟨q0, q1, q2, q3, q4, q5, q6⟩ := seven h; go_simp⟩) HS.out ?_
  refine wpAnyH_take (i := 13) (v := .int .i64 e.c.who) rfl (by kernel_rfl) (by kernel_rfl) (by kernel_rfl) (fun _ _ _ h => h) (Or.inl ⟨by kernel_rfl, fun w h => by obtain ⟨q0, q1, q2, q3, q4, q5, q6⟩ := seven h; go_simp⟩) HS.out ?_
  refine wpAnyH_ready (rs := [3]) (by kernel_rfl) (by simp) ?_
  refine AllReadyH.cons rfl (fun K hK => ?_) AllReadyH.nil
  go_simp
  refine (refput_in (W := w) E2.out (by have := len1.out; unfold Lim; omega) HR1.out HB1.out).mono ?_
  rintro en w2 ⟨A2, c2, rfl, ho2, hB2, hb2⟩
  have HS := Lib.hid (HS.out.below hb2)
  have HC2 := Lib.hid (HC1.out.below' hb2)
  have HB2 := Lib.hid hB2
  have HO2 := Lib.hid ho2
  have len2 := Lib.hid (len_num E2.out len1.out)
  clear hb2 hB2 ho2
  go_simp
  refine hK.out _ _ HS.out (fun _ => ?_)
  clear hK K
  refine wpAnyH_ready (rs := [6]) (by kernel_rfl) (by simp) ?_
  refine AllReadyH.cons rfl (fun K hK => ?_) AllReadyH.nil
  go_simp
  refine (refput_in (W := w) E3.out (by have := len2.out; unfold Lim; omega) (Rd.own_ HO2.out) HB2.out).mono ?_
  rintro en w3 ⟨A3, c3, rfl, ho3, hB3, hb3⟩
  have HS := Lib.hid (HS.out.below hb3)
  have HC3 := Lib.hid (HC2.out.below' hb3)
  have HB3 := Lib.hid hB3
  have HO3 := Lib.hid ho3
  have len3 := Lib.hid (len_num E3.out len2.out)
  clear hb3 hB3 ho3
  go_simp
  refine hK.out _ _ HS.out (fun _ => ?_)
  clear hK K
  refine wpAnyH_ready (rs := [10]) (by kernel_rfl) (by simp) ?_
  refine AllReadyH.cons rfl (fun K hK => ?_) AllReadyH.nil
  go_simp
  refine (refput_in (W := w) E4.out (by have := len3.out; unfold Lim; omega) (Rd.own_ HO3.out) HB3.out).mono ?_
  rintro en w4 ⟨A4, c4, rfl, ho4, hB4, hb4⟩
  have HS := Lib.hid (HS.out.below hb4)
  have HC4 := Lib.hid (HC3.out.below' hb4)
  have HB4 := Lib.hid hB4
  have HO4 := Lib.hid ho4
  have len4 := Lib.hid (len_num E4.out len3.out)
  clear hb4 hB4 ho4
  go_simp
  refine hK.out _ _ HS.out (fun _ => ?_)
  clear hK K
  refine wpAnyH_ready (rs := [14]) (by kernel_rfl) (by simp) ?_
  refine AllReadyH.cons rfl (fun K hK => ?_) AllReadyH.nil
  go_simp
  refine (refput_in (W := w) E5.out (by have := len4.out; unfold Lim; omega) (Rd.own_ HO4.out) HB4.out).mono ?_
  rintro en w5 ⟨A5, c5, rfl, ho5, hB5, hb5⟩
  have HS := Lib.hid (HS.out.below hb5)
  have HC5 := Lib.hid (HC4.out.below' hb5)
  have HB5 := Lib.hid hB5
  have HO5 := Lib.hid ho5
  have len5 := Lib.hid (len_num E5.out len4.out)
  clear hb5 hB5 ho5
  go_simp
  refine hK.out _ _ HS.out (fun _ => ?_)
  clear hK K
  refine wpAnyH_ready (rs := [15]) (by kernel_rfl) (by simp) ?_
  refine AllReadyH.cons rfl (fun K hK => ?_) AllReadyH.nil
  go_simp
  refine hK.out _ _ HS.out (fun _ => ?_)
  clear hK K
  refine wpAnyH_done (by kernel_rfl) ?_ _
  go_upto_region 2 with fail
  refine wp_region_held_drew (S := fun w' => Blk w' w.heap.size 27 #[.int .i64 e.s, .int .i64 e.q, .int .i64 e.c.kind, .int .i64 e.c.who, .slice Ak e.c.key.length ck, .slice Av e.c.val.length cv, .slice Ao e.c.old.length co]) (by kernel_rfl) HS.out.drew (fun _ => ?_)
  have hbd : Below w5.heap.size w5 w5.drew := (Below.refl _ _).drew
  have HS := Lib.hid (HS.out.below hbd)
  have HC6 := Lib.hid (HC5.out.below' hbd)
  have HB6 := Lib.hid (HB5.out.drew)
  have HO6 := Lib.hid (own_below HO5.out hbd)
  have len6 := len5
  clear hbd HB5 HO5 HC5 len5
  generalize w5.drew = w6 at HS HC6 HB6 HO6 ⊢
  refine wpAnyH_take (i := 0) (v := .slice A5 l5.length c5) rfl (by kernel_rfl) (by kernel_rfl) (by kernel_rfl) (fun _ _ _ h => h) (Or.inl ⟨by kernel_rfl, fun w _ => by go_simp⟩) HS.out ?_
  refine wpAnyH_take (i := 1) (v := .pointer (some ⟨w.heap.size, 2, none⟩)) rfl (by kernel_rfl) (by kernel_rfl) (by kernel_rfl) (fun _ _ _ h => h) (Or.inl ⟨by kernel_rfl, fun w _ => by go_simp⟩) HS.out ?_
  refine wpAnyH_take (i := 2) (v := .pointer (some ⟨w.heap.size, 4, none⟩)) rfl (by kernel_rfl) (by kernel_rfl) (by kernel_rfl) (fun _ _ _ h => h) (Or.inl ⟨by kernel_rfl, fun w _ => by go_simp⟩) HS.out ?_
  refine wpAnyH_take (i := 5) (v := .pointer (some ⟨w.heap.size, 2, none⟩)) rfl (by kernel_rfl) (by kernel_rfl) (by kernel_rfl) (fun _ _ _ h => h) (Or.inl ⟨by kernel_rfl, fun w _ => by go_simp⟩) HS.out ?_
  refine wpAnyH_take (i := 6) (v := .pointer (some ⟨w.heap.size, 5, none⟩)) rfl (by kernel_rfl) (by kernel_rfl) (by kernel_rfl) (fun _ _ _ h => h) (Or.inl ⟨by kernel_rfl, fun w _ => by go_simp⟩) HS.out ?_
  refine wpAnyH_take (i := 9) (v := .pointer (some ⟨w.heap.size, 2, none⟩)) rfl (by kernel_rfl) (by kernel_rfl) (by kernel_rfl) (fun _ _ _ h => h) (Or.inl ⟨by kernel_rfl, fun w _ => by go_simp⟩) HS.out ?_
  refine wpAnyH_take (i := 10) (v := .pointer (some ⟨w.heap.size, 6, none⟩)) rfl (by kernel_rfl) (by kernel_rfl) (by kernel_rfl) (fun _ _ _ h => h) (Or.inl ⟨by kernel_rfl, fun w _ => by go_simp⟩) HS.out ?_
  refine wpAnyH_take (i := 3) (v := .slice Ak e.c.key.length ck) rfl (by kernel_rfl) (by kernel_rfl) (by kernel_rfl) (fun _ _ _ h => h) (Or.inl ⟨by kernel_rfl, fun w h => by obtain ⟨q0, q1, q2, q3, q4, q5, q6⟩ := seven h; go_simp⟩) HS.out ?_
  refine wpAnyH_take (i := 7) (v := .slice Av e.c.val.length cv) rfl (by kernel_rfl) (by kernel_rfl) (by kernel_rfl) (fun _ _ _ h => h) (Or.inl ⟨by kernel_rfl, fun w h => by obtain ⟨q0, q1, q2, q3, q4, q5, q6⟩ := seven h; go_simp⟩) HS.out ?_
  refine wpAnyH_take (i := 11) (v := .slice Ao e.c.old.length co) rfl (by kernel_rfl) (by kernel_rfl) (by kernel_rfl) (fun _ _ _ h => h) (Or.inl ⟨by kernel_rfl, fun w h => by obtain ⟨q0, q1, q2, q3, q4, q5, q6⟩ := seven h; go_simp⟩) HS.out ?_
  refine wpAnyH_ready (rs := [4]) (by kernel_rfl) (by simp) ?_
  refine AllReadyH.cons rfl (fun K hK => ?_) AllReadyH.nil
  go_simp
  refine (refputb_in (W := w) E7.out (Rd.own_ HO6.out) HC6.out.rk (by have := len6.out; have := HF.out.key.1; have := HF.out.key.1; have := HF.out.val.1; unfold Lim; omega) HB6.out).mono ?_
  rintro en w7 ⟨A7, c7, rfl, ho7, hB7, hb7⟩
  have HS := Lib.hid (HS.out.below hb7)
  have HC7 := Lib.hid (HC6.out.below' hb7)
  have HB7 := Lib.hid hB7
  have HO7 := Lib.hid ho7
  have len7 := Lib.hid (len_byt E7.out len6.out)
  clear hb7 hB7 ho7
  go_simp
  refine hK.out _ _ HS.out (fun _ => ?_)
  clear hK K
  refine wpAnyH_ready (rs := [8]) (by kernel_rfl) (by simp) ?_
  refine AllReadyH.cons rfl (fun K hK => ?_) AllReadyH.nil
  go_simp
  refine (refputb_in (W := w) E8.out (Rd.own_ HO7.out) HC7.out.rv (by have := len7.out; have := HF.out.val.1; have := HF.out.key.1; have := HF.out.val.1; unfold Lim; omega) HB7.out).mono ?_
  rintro en w8 ⟨A8, c8, rfl, ho8, hB8, hb8⟩
  have HS := Lib.hid (HS.out.below hb8)
  have HC8 := Lib.hid (HC7.out.below' hb8)
  have HB8 := Lib.hid hB8
  have HO8 := Lib.hid ho8
  have len8 := Lib.hid (len_byt E8.out len7.out)
  clear hb8 hB8 ho8
  go_simp
  refine hK.out _ _ HS.out (fun _ => ?_)
  clear hK K
  refine wpAnyH_ready (rs := [12]) (by kernel_rfl) (by simp) ?_
  refine AllReadyH.cons rfl (fun K hK => ?_) AllReadyH.nil
  go_simp
  refine (refputb_in (W := w) E9.out (Rd.own_ HO8.out) HC8.out.ro (by have := len8.out; have := HF.out.old.1; have := HF.out.key.1; have := HF.out.val.1; unfold Lim; omega) HB8.out).mono ?_
  rintro en w9 ⟨A9, c9, rfl, ho9, hB9, hb9⟩
  have HS := Lib.hid (HS.out.below hb9)
  have HC9 := Lib.hid (HC8.out.below' hb9)
  have HB9 := Lib.hid hB9
  have HO9 := Lib.hid ho9
  have len9 := Lib.hid (len_byt E9.out len8.out)
  clear hb9 hB9 ho9
  go_simp
  refine hK.out _ _ HS.out (fun _ => ?_)
  clear hK K
  refine wpAnyH_ready (rs := [13]) (by kernel_rfl) (by simp) ?_
  refine AllReadyH.cons rfl (fun K hK => ?_) AllReadyH.nil
  go_simp
  refine hK.out _ _ HS.out (fun _ => ?_)
  clear hK K
  refine wpAnyH_done (by kernel_rfl) ?_ _
  go_wp2_with fail
  go_ret
  rw [hend.out]
  exact ⟨A9, c9, rfl, HO9.out, HB9.out, HB9.out⟩
theorem refPutEntry_any {W w : World} {l : List Nat} {A : Option Addr} {n c B : Nat} {ca : CA} {e : En} {B' : Nat} (hl : l.length ≤ 1000000) (hc : e.c.Fits) (h : Rd w B A n (bv l)) (h' : RdC w B' ca e.c) (hB : Below W.heap.size W w) :
    Calls Try.prog 38 #[.slice A n c, entV ca e] w (GotIn W w (l ++ e.enc)) :=
  (refPutEntry_raw hl hc h h').mono fun en w' ⟨A', c', h1, h2, h3, h4⟩ => ⟨A', c', h1, own_of hB.size h2, hB.trans (h3.mono hB.size), h4⟩
end Go.Proofs.Ytlfkgpllleogoaa

