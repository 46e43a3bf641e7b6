/- MachRefE MachRefN Seal LockWalks -/
import Derived.Test.YtmekamgohonffaaGreatBQ06
import Derived.Test.YtmekamgohonffaaGreatBQ15
import Derived.Test.YtmekamgohonffaaGreatBQ16
import Derived.Test.YtmekamgohonffaaGreatBQ23
import Derived.Test.YtmekamgohonffaaGreatBQ24
import Derived.Test.YtmekamgohonffaaGreatBQ28
import Derived.Test.YtmekamgohonffaaGreatBQ32
import Derived.Deep.RegionHeld3
import Derived.Deep.RegionLaw
import Derived.BigQuiet
import Derived.Deep.CutBlock
import Derived.Deep.DeepCutAuto
import Derived.OwnWalk
import Derived.WalkSpells
namespace Go.Proofs.YtmekamgohonffaaGreat
open Go.RowKit
set_option linter.unusedVariables false
theorem refput_in {W w : World} {l : List Nat} {A : Option Addr} {n c B : Nat} {N : Int} {l' : List Nat} (he : l ++ Pk.enc (Pk.held N) = l') (hn : Lim 20 n) (hr : Rd w B A n (bv l)) (hB : Below W.heap.size W w) :
    Calls Tryz.prog 17 #[.slice A n c, .int .i64 N] w (GotIn W w l') := by
  subst he
  exact (refnum_any l A n c B N hn w hr).mono fun e w' h => GotIn.of hB h
theorem refputb_in {W w : World} {l x : List Nat} {A : Option Addr} {n c B : Nat} {A' : Option Addr} {n' c' B' : Nat} {l' : List Nat} (he : l ++ Pk.encB x = l') (hr : Rd w B A n (bv l)) (hr' : Rd w B' A' n' (bv x)) (hn : Lim 20 (l.length + x.length)) (hB : Below W.heap.size W w) :
    Calls Tryz.prog 16 #[.slice A n c, .slice A' n' c'] w (GotIn W w l') := by
  subst he
  have h1 := hr.length
  have h2 := hr'.length
  have h3 := hn.out
  exact (refbytes_any l x A n c B A' n' c' B' (by unfold Lim; omega) (by unfold Lim; omega) (by unfold Lim; omega) w hr hr').mono fun e w' h => GotIn.of hB h
theorem len_num {l l' : List Nat} {k : Nat} {N : Int} (he : l ++ Pk.enc (Pk.held N) = l') (h : l.length ≤ k) : l'.length ≤ k + 9 := by
  subst he
  have := (Pk.enc_length (Pk.held N)).2; simp; omega
theorem len_byt {l l' x : List Nat} {k : Nat} (he : l ++ Pk.encB x = l') (h : l.length ≤ k) : l'.length ≤ k + 9 + x.length := by
  subst he
  have := encB_length x; simp; omega
set_option maxHeartbeats 4000000 in
set_option maxRecDepth 100000 in
theorem refPutEntry_raw {w : World} {l : List Nat} {A : Option Addr} {n c B : Nat} {ca : CA} {e : En} {B' : Nat} (hl : l.length ≤ 1000000) (hc : e.c.Fits) (h : Rd w B A n (bv l)) (h' : RdC w B' ca e.c) :
    Calls Tryz.prog 19 #[.slice A n c, entV ca e] w (GotIn w w (l ++ e.enc)) := by
  obtain ⟨Ak, ck, Av, cv, Ao, co⟩ := ca
  have hn : l.length = n := by have := h.length; simpa using this
  subst hn
  have b0 : Below w.heap.size w (w.alloc (.cells #[.int .i64 e.s, .int .i64 e.q, .int .i64 e.c.kind, .int .i64 e.c.who, .slice Ak e.c.key.length ck, .slice Av e.c.val.length cv, .slice Ao e.c.old.length co] 43)) := (Below.refl _ _).alloc (Nat.le_refl _) _
  have HL := Lib.hid hl
  have hend : Hid (l ++ e.enc = ((((((l ++ Pk.enc (Pk.held e.s)) ++ Pk.enc (Pk.held e.q)) ++ Pk.enc (Pk.held e.c.kind)) ++ Pk.enc (Pk.held e.c.who)) ++ Pk.encB e.c.key) ++ Pk.encB e.c.val) ++ Pk.encB e.c.old) := Lib.hid (by unfold En.enc; simp only [List.append_assoc])
  obtain ⟨l2, e2⟩ : ∃ x, l ++ Pk.enc (Pk.held e.s) = x := ⟨_, rfl⟩
  obtain ⟨l3, e3⟩ : ∃ x, l2 ++ Pk.enc (Pk.held e.q) = x := ⟨_, rfl⟩
  obtain ⟨l4, e4⟩ : ∃ x, l3 ++ Pk.enc (Pk.held e.c.kind) = x := ⟨_, rfl⟩
  obtain ⟨l5, e5⟩ : ∃ x, l4 ++ Pk.enc (Pk.held e.c.who) = x := ⟨_, rfl⟩
  obtain ⟨l7, e7⟩ : ∃ x, l5 ++ Pk.encB e.c.key = x := ⟨_, rfl⟩
  obtain ⟨l8, e8⟩ : ∃ x, l7 ++ Pk.encB e.c.val = x := ⟨_, rfl⟩
  obtain ⟨l9, e9⟩ : ∃ x, l8 ++ Pk.encB e.c.old = x := ⟨_, rfl⟩
  rw [e2, e3, e4, e5, e7, e8, e9] at hend
  have E2 := Lib.hid e2
  have E3 := Lib.hid e3
  have E4 := Lib.hid e4
  have E5 := Lib.hid e5
  have E7 := Lib.hid e7
  have E8 := Lib.hid e8
  have E9 := Lib.hid e9
  clear e2 e3 e4 e5 e7 e8 e9
  have HF := Lib.hid hc
  have HK := Lib.hid (Blk.new w 43 #[.int .i64 e.s, .int .i64 e.q, .int .i64 e.c.kind, .int .i64 e.c.who, .slice Ak e.c.key.length ck, .slice Av e.c.val.length cv, .slice Ao e.c.old.length co])
  have HR := Lib.hid (h.fit.below b0)
  have HC := Lib.hid (h'.fit.below b0)
  have HB := Lib.hid b0
  clear h h' hl hc b0
  unfold entV entC
  go_enter Tryz.func19, Tryz.ntmps19
  go_upto_region 1 with fail
  generalize w.alloc (.cells #[.int .i64 e.s, .int .i64 e.q, .int .i64 e.c.kind, .int .i64 e.c.who, .slice Ak e.c.key.length ck, .slice Av e.c.val.length cv, .slice Ao e.c.old.length co] 43) = wa at HK HR HC HB ⊢
  obtain ⟨x0, x1, x2, x3, x4, x5, x6⟩ := seven HK.out
  refine wp_region_held_drew (S := fun w' => Blk w' w.heap.size 43 #[.int .i64 e.s, .int .i64 e.q, .int .i64 e.c.kind, .int .i64 e.c.who, .slice Ak e.c.key.length ck, .slice Av e.c.val.length cv, .slice Ao e.c.old.length co]) (by kernel_rfl) HK.out.drew (fun _ => ?_)
  have hbd : Below wa.heap.size wa wa.drew := (Below.refl _ _).drew
  have HS := Lib.hid (HK.out.below hbd)
  have HR1 := Lib.hid (HR.out.drew)
  have HC1 := Lib.hid (HC.out.fit.below hbd).fit
  have HB1 := Lib.hid (HB.out.drew)
  clear hbd HK HR HC HB x0 x1 x2 x3 x4 x5 x6
  generalize wa.drew = w1 at HS HR1 HC1 HB1 ⊢
  have len1 := HL
  refine wpAnyH_take (i := 0) (v := .slice A l.length c) rfl (by kernel_rfl) (by kernel_rfl) (by kernel_rfl) (fun _ _ _ h => h) (Or.inl ⟨by kernel_rfl, fun w _ => by go_simp⟩) HS.out ?_
  refine wpAnyH_take (i := 1) (v := .pointer (some ⟨w.heap.size, 0, none⟩)) rfl (by kernel_rfl) (by kernel_rfl) (by kernel_rfl) (fun _ _ _ h => h) (Or.inl ⟨by kernel_rfl, fun w _ => by go_simp⟩) HS.out ?_
  refine wpAnyH_take (i := 4) (v := .pointer (some ⟨w.heap.size, 1, none⟩)) rfl (by kernel_rfl) (by kernel_rfl) (by kernel_rfl) (fun _ _ _ h => h) (Or.inl ⟨by kernel_rfl, fun w _ => by go_simp⟩) HS.out ?_
  refine wpAnyH_take (i := 7) (v := .pointer (some ⟨w.heap.size, 2, none⟩)) rfl (by kernel_rfl) (by kernel_rfl) (by kernel_rfl) (fun _ _ _ h => h) (Or.inl ⟨by kernel_rfl, fun w _ => by go_simp⟩) HS.out ?_
  refine wpAnyH_take (i := 8) (v := .pointer (some ⟨w.heap.size, 2, none⟩)) rfl (by kernel_rfl) (by kernel_rfl) (by kernel_rfl) (fun _ _ _ h => h) (Or.inl ⟨by kernel_rfl, fun w _ => by go_simp⟩) HS.out ?_
  refine wpAnyH_take (i := 11) (v := .pointer (some ⟨w.heap.size, 2, none⟩)) rfl (by kernel_rfl) (by kernel_rfl) (by kernel_rfl) (fun _ _ _ h => h) (Or.inl ⟨by kernel_rfl, fun w _ => by go_simp⟩) HS.out ?_
  refine wpAnyH_take (i := 12) (v := .pointer (some ⟨w.heap.size, 3, none⟩)) rfl (by kernel_rfl) (by kernel_rfl) (by kernel_rfl) (fun _ _ _ h => h) (Or.inl ⟨by kernel_rfl, fun w _ => by go_simp⟩) HS.out ?_
  refine wpAnyH_take (i := 2) (v := .int .i64 e.s) rfl (by kernel_rfl) (by kernel_rfl) (by kernel_rfl) (fun _ _ _ h => h) (Or.inl ⟨by kernel_rfl, fun w h => by obtain ⟨q0, q1, q2, q3, q4, q5, q6⟩ := seven h; go_simp⟩) HS.out ?_
  refine wpAnyH_take (i := 5) (v := .int .i64 e.q) rfl (by kernel_rfl) (by kernel_rfl) (by kernel_rfl) (fun _ _ _ h => h) (Or.inl ⟨by kernel_rfl, fun w h => by obtain ⟨q0, q1, q2, q3, q4, q5, q6⟩ := seven h; go_simp⟩) HS.out ?_
  refine wpAnyH_take (i := 9) (v := .int .i64 e.c.kind) rfl (by kernel_rfl) (by kernel_rfl) (by kernel_rfl) (fun _ _ _ h => h) (Or.inl ⟨by kernel_rfl, fun w h => by obtain ⟨q0, q1, q2, q3, q4, q5, q6⟩ := seven h; go_simp⟩) HS.out ?_
  refine wpAnyH_take (i := 13) (v := .int .i64 e.c.who) rfl (by kernel_rfl) (by kernel_rfl) (by kernel_rfl) (fun _ _ _ h => h) (Or.inl ⟨by kernel_rfl, fun w h => by obtain ⟨q0, q1, q2, q3, q4, q5, q6⟩ := seven h; go_simp⟩) HS.out ?_
  refine wpAnyH_ready (rs := [3]) (by kernel_rfl) (by simp) ?_
  refine AllReadyH.cons rfl (fun K hK => ?_) AllReadyH.nil
  go_simp
  refine (refput_in (W := w) E2.out (by have := len1.out; unfold Lim; omega) HR1.out HB1.out).mono ?_
  rintro en w2 ⟨A2, c2, rfl, ho2, hB2, hb2⟩
  have HS := Lib.hid (HS.out.below hb2)
  have HC2 := Lib.hid (HC1.out.below' hb2)
  have HB2 := Lib.hid hB2
  have HO2 := Lib.hid ho2
  have len2 := Lib.hid (len_num E2.out len1.out)
  clear hb2 hB2 ho2
  go_simp
  refine hK.out _ _ HS.out (fun _ => ?_)
  clear hK K
  refine wpAnyH_ready (rs := [6]) (by kernel_rfl) (by simp) ?_
  refine AllReadyH.cons rfl (fun K hK => ?_) AllReadyH.nil
  go_simp
  refine (refput_in (W := w) E3.out (by have := len2.out; unfold Lim; omega) (Rd.own_ HO2.out) HB2.out).mono ?_
  rintro en w3 ⟨A3, c3, rfl, ho3, hB3, hb3⟩
  have HS := Lib.hid (HS.out.below hb3)
  have HC3 := Lib.hid (HC2.out.below' hb3)
  have HB3 := Lib.hid hB3
  have HO3 := Lib.hid ho3
  have len3 := Lib.hid (len_num E3.out len2.out)
  clear hb3 hB3 ho3
  go_simp
  refine hK.out _ _ HS.out (fun _ => ?_)
  clear hK K
  refine wpAnyH_ready (rs := [10]) (by kernel_rfl) (by simp) ?_
  refine AllReadyH.cons rfl (fun K hK => ?_) AllReadyH.nil
  go_simp
  refine (refput_in (W := w) E4.out (by have := len3.out; unfold Lim; omega) (Rd.own_ HO3.out) HB3.out).mono ?_
  rintro en w4 ⟨A4, c4, rfl, ho4, hB4, hb4⟩
  have HS := Lib.hid (HS.out.below hb4)
  have HC4 := Lib.hid (HC3.out.below' hb4)
  have HB4 := Lib.hid hB4
  have HO4 := Lib.hid ho4
  have len4 := Lib.hid (len_num E4.out len3.out)
  clear hb4 hB4 ho4
  go_simp
  refine hK.out _ _ HS.out (fun _ => ?_)
  clear hK K
  refine wpAnyH_ready (rs := [14]) (by kernel_rfl) (by simp) ?_
  refine AllReadyH.cons rfl (fun K hK => ?_) AllReadyH.nil
  go_simp
  refine (refput_in (W := w) E5.out (by have := len4.out; unfold Lim; omega) (Rd.own_ HO4.out) HB4.out).mono ?_
  rintro en w5 ⟨A5, c5, rfl, ho5, hB5, hb5⟩
  have HS := Lib.hid (HS.out.below hb5)
  have HC5 := Lib.hid (HC4.out.below' hb5)
  have HB5 := Lib.hid hB5
  have HO5 := Lib.hid ho5
  have len5 := Lib.hid (len_num E5.out len4.out)
  clear hb5 hB5 ho5
  go_simp
  refine hK.out _ _ HS.out (fun _ => ?_)
  clear hK K
  refine wpAnyH_ready (rs := [15]) (by kernel_rfl) (by simp) ?_
  refine AllReadyH.cons rfl (fun K hK => ?_) AllReadyH.nil
  go_simp
  refine hK.out _ _ HS.out (fun _ => ?_)
  clear hK K
  refine wpAnyH_done (by kernel_rfl) ?_ _
  go_upto_region 2 with fail
  refine wp_region_held_drew (S := fun w' => Blk w' w.heap.size 43 #[.int .i64 e.s, .int .i64 e.q, .int .i64 e.c.kind, .int .i64 e.c.who, .slice Ak e.c.key.length ck, .slice Av e.c.val.length cv, .slice Ao e.c.old.length co]) (by kernel_rfl) HS.out.drew (fun _ => ?_)
  have hbd : Below w5.heap.size w5 w5.drew := (Below.refl _ _).drew
  have HS := Lib.hid (HS.out.below hbd)
  have HC6 := Lib.hid (HC5.out.below' hbd)
  have HB6 := Lib.hid (HB5.out.drew)
  have HO6 := Lib.hid (own_below HO5.out hbd)
  have len6 := len5
  clear hbd HB5 HO5 HC5 len5
  generalize w5.drew = w6 at HS HC6 HB6 HO6 ⊢
  refine wpAnyH_take (i := 0) (v := .slice A5 l5.length c5) rfl (by kernel_rfl) (by kernel_rfl) (by kernel_rfl) (fun _ _ _ h => h) (Or.inl ⟨by kernel_rfl, fun w _ => by go_simp⟩) HS.out ?_
  refine wpAnyH_take (i := 1) (v := .pointer (some ⟨w.heap.size, 2, none⟩)) rfl (by kernel_rfl) (by kernel_rfl) (by kernel_rfl) (fun _ _ _ h => h) (Or.inl ⟨by kernel_rfl, fun w _ => by go_simp⟩) HS.out ?_
  refine wpAnyH_take (i := 2) (v := .pointer (some ⟨w.heap.size, 4, none⟩)) rfl (by kernel_rfl) (by kernel_rfl) (by kernel_rfl) (fun _ _ _ h => h) (Or.inl ⟨by kernel_rfl, fun w _ => by go_simp⟩) HS.out ?_
  refine wpAnyH_take (i := 5) (v := .pointer (some ⟨w.heap.size, 2, none⟩)) rfl (by kernel_rfl) (by kernel_rfl) (by kernel_rfl) (fun _ _ _ h => h) (Or.inl ⟨by kernel_rfl, fun w _ => by go_simp⟩) HS.out ?_
  refine wpAnyH_take (i := 6) (v := .pointer (some ⟨w.heap.size, 5, none⟩)) rfl (by kernel_rfl) (by kernel_rfl) (by kernel_rfl) (fun _ _ _ h => h) (Or.inl ⟨by kernel_rfl, fun w _ => by go_simp⟩) HS.out ?_
  refine wpAnyH_take (i := 9) (v := .pointer (some ⟨w.heap.size, 2, none⟩)) rfl (by kernel_rfl) (by kernel_rfl) (by kernel_rfl) (fun _ _ _ h => h) (Or.inl ⟨by kernel_rfl, fun w _ => by go_simp⟩) HS.out ?_
  refine wpAnyH_take (i := 10) (v := .pointer (some ⟨w.heap.size, 6, none⟩)) rfl (by kernel_rfl) (by kernel_rfl) (by kernel_rfl) (fun _ _ _ h => h) (Or.inl ⟨by kernel_rfl, fun w _ => by go_simp⟩) HS.out ?_
  refine wpAnyH_take (i := 3) (v := .slice Ak e.c.key.length ck) rfl (by kernel_rfl) (by kernel_rfl) (by kernel_rfl) (fun _ _ _ h => h) (Or.inl ⟨by kernel_rfl, fun w h => by obtain ⟨q0, q1, q2, q3, q4, q5, q6⟩ := seven h; go_simp⟩) HS.out ?_
  refine wpAnyH_take (i := 7) (v := .slice Av e.c.val.length cv) rfl (by kernel_rfl) (by kernel_rfl) (by kernel_rfl) (fun _ _ _ h => h) (Or.inl ⟨by kernel_rfl, fun w h => by obtain ⟨q0, q1, q2, q3, q4, q5, q6⟩ := seven h; go_simp⟩) HS.out ?_
  refine wpAnyH_take (i := 11) (v := .slice Ao e.c.old.length co) rfl (by kernel_rfl) (by kernel_rfl) (by kernel_rfl) (fun _ _ _ h => h) (Or.inl ⟨by kernel_rfl, fun w h => by obtain ⟨q0, q1, q2, q3, q4, q5, q6⟩ := seven h; go_simp⟩) HS.out ?_
  refine wpAnyH_ready (rs := [4]) (by kernel_rfl) (by simp) ?_
  refine AllReadyH.cons rfl (fun K hK => ?_) AllReadyH.nil
  go_simp
  refine (refputb_in (W := w) E7.out (Rd.own_ HO6.out) HC6.out.rk (by have := len6.out; have := HF.out.key.1; have := HF.out.key.1; have := HF.out.val.1; unfold Lim; omega) HB6.out).mono ?_
  rintro en w7 ⟨A7, c7, rfl, ho7, hB7, hb7⟩
  have HS := Lib.hid (HS.out.below hb7)
  have HC7 := Lib.hid (HC6.out.below' hb7)
  have HB7 := Lib.hid hB7
  have HO7 := Lib.hid ho7
  have len7 := Lib.hid (len_byt E7.out len6.out)
  clear hb7 hB7 ho7
  go_simp
  refine hK.out _ _ HS.out (fun _ => ?_)
  clear hK K
  refine wpAnyH_ready (rs := [8]) (by kernel_rfl) (by simp) ?_
  refine AllReadyH.cons rfl (fun K hK => ?_) AllReadyH.nil
  go_simp
  refine (refputb_in (W := w) E8.out (Rd.own_ HO7.out) HC7.out.rv (by have := len7.out; have := HF.out.val.1; have := HF.out.key.1; have := HF.out.val.1; unfold Lim; omega) HB7.out).mono ?_
  rintro en w8 ⟨A8, c8, rfl, ho8, hB8, hb8⟩
  have HS := Lib.hid (HS.out.below hb8)
  have HC8 := Lib.hid (HC7.out.below' hb8)
  have HB8 := Lib.hid hB8
  have HO8 := Lib.hid ho8
  have len8 := Lib.hid (len_byt E8.out len7.out)
  clear hb8 hB8 ho8
  go_simp
  refine hK.out _ _ HS.out (fun _ => ?_)
  clear hK K
  refine wpAnyH_ready (rs := [12]) (by kernel_rfl) (by simp) ?_
  refine AllReadyH.cons rfl (fun K hK => ?_) AllReadyH.nil
  go_simp
  refine (refputb_in (W := w) E9.out (Rd.own_ HO8.out) HC8.out.ro (by have := len8.out; have := HF.out.old.1; have := HF.out.key.1; have := HF.out.val.1; unfold Lim; omega) HB8.out).mono ?_
  rintro en w9 ⟨A9, c9, rfl, ho9, hB9, hb9⟩
  have HS := Lib.hid (HS.out.below hb9)
  have HC9 := Lib.hid (HC8.out.below' hb9)
  have HB9 := Lib.hid hB9
  have HO9 := Lib.hid ho9
  have len9 := Lib.hid (len_byt E9.out len8.out)
  clear hb9 hB9 ho9
  go_simp
  refine hK.out _ _ HS.out (fun _ => ?_)
  clear hK K
  refine wpAnyH_ready (rs := [13]) (by kernel_rfl) (by simp) ?_
  refine AllReadyH.cons rfl (fun K hK => ?_) AllReadyH.nil
  go_simp
  refine hK.out _ _ HS.out (fun _ => ?_)
  clear hK K
  refine wpAnyH_done (by kernel_rfl) ?_ _
  go_wp2_with fail
  go_ret
  rw [hend.out]
  exact ⟨A9, c9, rfl, HO9.out, HB9.out, HB9.out⟩
theorem refPutEntry_any {W w : World} {l : List Nat} {A : Option Addr} {n c B : Nat} {ca : CA} {e : En} {B' : Nat} (hl : l.length ≤ 1000000) (hc : e.c.Fits) (h : Rd w B A n (bv l)) (h' : RdC w B' ca e.c) (hB : Below W.heap.size W w) :
    Calls Tryz.prog 19 #[.slice A n c, entV ca e] w (GotIn W w (l ++ e.enc)) :=
  (refPutEntry_raw hl hc h h').mono fun en w' ⟨A', c', h1, h2, h3, h4⟩ => ⟨A', c', h1, own_of hB.size h2, hB.trans (h3.mono hB.size), h4⟩
end Go.Proofs.YtmekamgohonffaaGreat

namespace Go.Proofs.YtmekamgohonffaaGreat
open Go.RowKit
set_option linter.unusedVariables false
/-- the machine in its variable -/
structure BoxM (w wx : World) (b : Nat) (a : MA) (m : Mc) : Prop where
  blk : Blk wx b 31 (machC a m)
  rd : RdM wx w.heap.size a m
  bel : Below w.heap.size w wx
theorem BoxM.below {w wx wy : World} {b : Nat} {a : MA} {m : Mc} (h : BoxM w wx b a m) (hb : Below wx.heap.size wx wy) : BoxM w wy b a m :=
  ⟨h.blk.below hb, h.rd.below (hb.mono h.bel.size), h.bel.trans (hb.mono h.bel.size)⟩
theorem BoxM.start {w : World} {a : MA} {m : Mc} {B : Nat} (h : RdM w B a m) : BoxM w (w.alloc (.cells (machC a m) 31)) w.heap.size a m :=
  ⟨Blk.new _ _ _, h.fit.below ((Below.refl _ _).alloc (Nat.le_refl _) _), (Below.refl _ _).alloc (Nat.le_refl _) _⟩
theorem encQ_take {qs : List (List Nat)} (h : ∀ x ∈ qs, x.length ≤ 16) (hq : qs.length ≤ 8) (k : Nat) : (encQ (qs.take k)).length ≤ 200 := by
  have := encQ_length (qs := qs.take k) fun x hx => h x (List.mem_of_mem_take hx)
  have h2 : (qs.take k).length ≤ qs.length := by rw [List.length_take]; omega
  omega
theorem encs_take {zs : List Int} (hq : zs.length ≤ 5) (k : Nat) : (Pk.encs (zs.take k)).length ≤ 45 := by
  have := Pk.encs_length (zs.take k)
  have h2 : (zs.take k).length ≤ zs.length := by rw [List.length_take]; omega
  omega
theorem encP_take {ps : List Pr} (h : ∀ p ∈ ps, p.1.length ≤ 8 ∧ p.2.length ≤ 16) (hq : ps.length ≤ 8) (k : Nat) : (encP (ps.take k)).length ≤ 336 := by
  have := encP_length (ps := ps.take k) fun x hx => h x (List.mem_of_mem_take hx)
  have h2 : (ps.take k).length ≤ ps.length := by rw [List.length_take]; omega
  omega
theorem encT_take {ls : List Ls} (h : ∀ l ∈ ls, l.v.length ≤ 16) (hq : ls.length ≤ 8) (k : Nat) : (encT (ls.take k)).length ≤ 488 := by
  have := encT_length (ls := ls.take k) fun x hx => h x (List.mem_of_mem_take hx)
  have h2 : (ls.take k).length ≤ ls.length := by rw [List.length_take]; omega
  omega
theorem encs_snoc_at {zs : List Int} {k : Nat} {z : Int} (h : zs[k]? = some z) : Pk.encs (zs.take (k + 1)) = Pk.encs (zs.take k) ++ Pk.enc (Pk.held z) := by
  rw [List.take_add_one, h]; exact Pk.encs_snoc _ _
theorem encQ_snoc_at {qs : List (List Nat)} {k : Nat} {x : List Nat} (h : qs[k]? = some x) : encQ (qs.take (k + 1)) = encQ (qs.take k) ++ Pk.encB x := by
  rw [List.take_add_one, h]; exact encQ_snoc _ _
theorem encP_snoc_at {ps : List Pr} {k : Nat} {p : Pr} (h : ps[k]? = some p) : encP (ps.take (k + 1)) = encP (ps.take k) ++ Pk.encB p.1 ++ Pk.encB p.2 := by
  rw [List.take_add_one, h]; exact encP_snoc _ _
theorem encT_snoc_at {ls : List Ls} {k : Nat} {l : Ls} (h : ls[k]? = some l) : encT (ls.take (k + 1)) = encT (ls.take k) ++ Pk.enc (Pk.held l.s) ++ Pk.enc (Pk.held l.q) ++ Pk.enc (Pk.held l.e) ++ Pk.enc (Pk.held (l.n + 1)) ++ Pk.encB l.v := by
  rw [List.take_add_one, h]; exact encT_snoc _ _
theorem len_app {l l' x : List Nat} {k j : Nat} (he : l' = l ++ x) (h : l.length ≤ k) (hx : x.length ≤ j) : l'.length ≤ k + j := by
  subst he; simp; omega
set_option maxHeartbeats 4000000 in
set_option maxRecDepth 100000 in
theorem refEncode_raw {w : World} {a : MA} {m : Mc} {B : Nat} (hM : m.Ok) (h : RdM w B a m) :
    Calls Tryz.prog 18 #[machV a m] w (GotIn w w m.enc) := by
  obtain ⟨⟨A0, c0, A1, c1, A2, c2, A3, c3⟩, At, ct⟩ := a
  have HBX := Lib.hid (BoxM.start h)
  have HM := Lib.hid hM
  have hq8 := hM.o.ql
  have hl5 := hM.o.lkl
  have hm8 := hM.o.mp.few
  have ht8 := hM.t8
  clear h hM
  unfold machV
  simp only [machC] at HBX ⊢
  go_enter Tryz.func18, Tryz.ntmps18
  go_upto_region 1 with fail
  generalize w.alloc (.cells #[.slice A0 m.o.reg.length c0, .slice A1 m.o.q.length c1, .slice A2 m.o.lk.length c2, .slice A3 m.o.mp.length c3, .slice At m.t.length ct] 31) = wa at HBX ⊢
  obtain ⟨x0, x1, x2, x3, x4⟩ := five (t := 31) HBX.out.blk
  obtain ⟨l1, e1⟩ : ∃ x, Pk.encB m.o.reg = x := ⟨_, rfl⟩
  have len1 : Hid (l1.length ≤ 25) := Lib.hid (by rw [← e1]; have := encB_length m.o.reg; have := HM.out.o.reg; omega)
  obtain ⟨l2, e2⟩ : ∃ x, l1 ++ Pk.enc (Pk.held (m.o.q.length : Int)) = x := ⟨_, rfl⟩
  have len2 : Hid (l2.length ≤ 34) := Lib.hid (len_num e2 len1.out)
  have E1 := Lib.hid e1
  have E2 := Lib.hid e2
  clear e1 e2
  go_wp2_with (first
    | (go_at_call 16; refine (refputb_in (W := w) (l := []) (x := m.o.reg) (l' := l1) (by rw [← E1.out]; rfl) (Rd.none_ wa 0 none) HBX.out.rd.o.r0 (by have := HM.out.o.reg; unfold Lim; simp; omega) HBX.out.bel).mono ?_; rintro e w1 ⟨A5, c5, rfl, ho, hB, hb⟩; have HBX := Lib.hid (HBX.out.below hb); have HO := Lib.hid ho; clear ho hB hb x0 x1 x2 x3 x4; obtain ⟨x0, x1, x2, x3, x4⟩ := five (t := 31) HBX.out.blk)
    | (go_at_call 17; refine (refput_in (W := w) E2.out (by have := len1.out; unfold Lim; omega) (Rd.own_ HO.out) HBX.out.bel).mono ?_; rintro e w2 ⟨A6, c6, rfl, ho, hB, hb⟩; have HBX := Lib.hid (HBX.out.below hb); have HO := Lib.hid ho; clear ho hB hb x0 x1 x2 x3 x4; obtain ⟨x0, x1, x2, x3, x4⟩ := five (t := 31) HBX.out.blk)
    | fail)
  go_loopw [3, 4] (fun s3 s4 wr => ∃ (k : Nat) (A' : Option Addr) (c' : Nat) (l' : List Nat), k ≤ m.o.q.length ∧ s4 = .int .i64 (k : Int) ∧ s3 = .slice A' l'.length c' ∧ Hid (OwnB w wr A' l'.length c' l') ∧ Hid (l' = l2 ++ encQ (m.o.q.take k)) ∧ Hid (BoxM w wr w.heap.size ⟨⟨A0, c0, A1, c1, A2, c2, A3, c3⟩, At, ct⟩ m)) (fun _ s4 _ => m.o.q.length - (intOf s4).toNat)
  case atStart => exact ⟨0, A6, c6, l2, Nat.zero_le _, rfl, rfl, HO, Lib.hid (by simp [encQ]), HBX⟩
  case round =>
    clear HBX HO x0 x1 x2 x3 x4
    obtain ⟨k, A', c', l', hk, rfl, rfl, HO, HE, HBX⟩ := hrel
    by_cases hlt : k < m.o.q.length
    · obtain ⟨b, o, x, A7, c7, hA, hx, hcell, hrd⟩ := HBX.out.rd.o.r1.at hlt
      have hA : A1 = some ⟨b, o, none⟩ := hA
      subst hA
      have HX := Lib.hid hx
      have HRD := Lib.hid hrd
      have lenk : Hid (l'.length ≤ 234) := Lib.hid (len_app HE.out len2.out (encQ_take HM.out.o.qv hq8 k))
      have hx16 : x.length ≤ 16 := HM.out.o.qv x (List.mem_of_getElem? hx)
      obtain ⟨l'', e''⟩ : ∃ y, l' ++ Pk.encB x = y := ⟨_, rfl⟩
      have E'' := Lib.hid e''
      clear e'' hx hrd
      obtain ⟨x0, x1, x2, x3, x4⟩ := five (t := 31) HBX.out.blk
      go_wp2_with (first
        | (go_at_call 16; refine (refputb_in (W := w) E''.out (Rd.own_ HO.out) HRD.out (by have := lenk.out; unfold Lim; omega) HBX.out.bel).mono ?_; rintro e w4 ⟨A8, c8, rfl, ho, hB, hb⟩)
        | fail)
      go_roundw
      case rel => exact ⟨k + 1, A8, c8, l'', by omega, by go_num, rfl, Lib.hid ho, Lib.hid (by rw [← E''.out, HE.out, encQ_snoc_at HX.out, List.append_assoc]), Lib.hid (HBX.out.below hb)⟩
      case measure => simp only [intOf]; omega
    · obtain rfl : k = m.o.q.length := by omega
      rw [List.take_of_length_le (Nat.le_refl _)] at HE
      obtain ⟨x0, x1, x2, x3, x4⟩ := five (t := 31) HBX.out.blk
      obtain ⟨l3, hl3⟩ : ∃ x, l' = x := ⟨_, rfl⟩
      rw [hl3] at HE HO ⊢
      clear hl3
      have HE3 := HE
      have len3 : Hid (l3.length ≤ 234) := Lib.hid (len_app HE3.out len2.out (by have := encQ_take HM.out.o.qv hq8 m.o.q.length; rwa [List.take_of_length_le (Nat.le_refl _)] at this))
      obtain ⟨l4, e4⟩ : ∃ x, l3 ++ Pk.enc (Pk.held (m.o.lk.length : Int)) = x := ⟨_, rfl⟩
      have len4 : Hid (l4.length ≤ 243) := Lib.hid (len_num e4 len3.out)
      have E4 := Lib.hid e4
      clear e4 HE
      go_wp2_with (first
        | (go_at_call 17; refine (refput_in (W := w) E4.out (by have := len3.out; unfold Lim; omega) (Rd.own_ HO.out) HBX.out.bel).mono ?_; rintro e w2 ⟨A6, c6, rfl, ho, hB, hb⟩; have HBX := Lib.hid (HBX.out.below hb); have HO := Lib.hid ho; clear ho hB hb x0 x1 x2 x3 x4; obtain ⟨x0, x1, x2, x3, x4⟩ := five (t := 31) HBX.out.blk)
        | fail)
      go_loopw [3, 5] (fun s3 s5 wr => ∃ (k : Nat) (A' : Option Addr) (c' : Nat) (l' : List Nat), k ≤ m.o.lk.length ∧ s5 = .int .i64 (k : Int) ∧ s3 = .slice A' l'.length c' ∧ Hid (OwnB w wr A' l'.length c' l') ∧ Hid (l' = l4 ++ Pk.encs (m.o.lk.take k)) ∧ Hid (BoxM w wr w.heap.size ⟨⟨A0, c0, A1, c1, A2, c2, A3, c3⟩, At, ct⟩ m)) (fun _ s5 _ => m.o.lk.length - (intOf s5).toNat)
      case atStart => exact ⟨0, A6, c6, l4, Nat.zero_le _, rfl, rfl, HO, Lib.hid (by simp [Pk.encs]), HBX⟩
      case round =>
        clear HBX HO x0 x1 x2 x3 x4
        obtain ⟨k, A', c', l', hk, rfl, rfl, HO, HE, HBX⟩ := hrel
        by_cases hlt : k < m.o.lk.length
        · obtain ⟨z, hz⟩ : ∃ z, m.o.lk[k]? = some z := ⟨_, List.getElem?_eq_getElem hlt⟩
          obtain ⟨b, o, hA, _⟩ := HBX.out.rd.o.r2.int_at hlt
          have hA : A2 = some ⟨b, o, none⟩ := hA
          subst hA
          have hcell := HBX.out.rd.o.r2.int_cell hlt hz
          have HX := Lib.hid hz
          have lenk : Hid (l'.length ≤ 288) := Lib.hid (len_app HE.out len4.out (encs_take hl5 k))
          obtain ⟨l'', e''⟩ : ∃ y, l' ++ Pk.enc (Pk.held z) = y := ⟨_, rfl⟩
          have E'' := Lib.hid e''
          clear e'' hz
          obtain ⟨x0, x1, x2, x3, x4⟩ := five (t := 31) HBX.out.blk
          go_wp2_with (first
            | (go_at_call 17; refine (refput_in (W := w) E''.out (by have := lenk.out; unfold Lim; omega) (Rd.own_ HO.out) HBX.out.bel).mono ?_; rintro e w4 ⟨A8, c8, rfl, ho, hB, hb⟩)
            | fail)
          go_roundw
          case rel => exact ⟨k + 1, A8, c8, l'', by omega, by go_num, rfl, Lib.hid ho, Lib.hid (by rw [← E''.out, HE.out, encs_snoc_at HX.out, List.append_assoc]), Lib.hid (HBX.out.below hb)⟩
          case measure => simp only [intOf]; omega
        · obtain rfl : k = m.o.lk.length := by omega
          rw [List.take_of_length_le (Nat.le_refl _)] at HE
          obtain ⟨x0, x1, x2, x3, x4⟩ := five (t := 31) HBX.out.blk
          obtain ⟨l5, hl5'⟩ : ∃ x, l' = x := ⟨_, rfl⟩
          rw [hl5'] at HE HO ⊢
          clear hl5'
          have HE5 := HE
          have len5 : Hid (l5.length ≤ 288) := Lib.hid (len_app HE5.out len4.out (by have := encs_take hl5 m.o.lk.length; rwa [List.take_of_length_le (Nat.le_refl _)] at this))
          obtain ⟨l6, e6⟩ : ∃ x, l5 ++ Pk.enc (Pk.held (m.o.mp.length : Int)) = x := ⟨_, rfl⟩
          have len6 : Hid (l6.length ≤ 297) := Lib.hid (len_num e6 len5.out)
          have E6 := Lib.hid e6
          clear e6 HE
          go_wp2_with (first
            | (go_at_call 17; refine (refput_in (W := w) E6.out (by have := len5.out; unfold Lim; omega) (Rd.own_ HO.out) HBX.out.bel).mono ?_; rintro e w2 ⟨A6, c6, rfl, ho, hB, hb⟩; have HBX := Lib.hid (HBX.out.below hb); have HO := Lib.hid ho; clear ho hB hb x0 x1 x2 x3 x4; obtain ⟨x0, x1, x2, x3, x4⟩ := five (t := 31) HBX.out.blk)
            | fail)
          go_loopw [3, 6] (fun s3 s6 wr => ∃ (k : Nat) (A' : Option Addr) (c' : Nat) (l' : List Nat), k ≤ m.o.mp.length ∧ s6 = .int .i64 (k : Int) ∧ s3 = .slice A' l'.length c' ∧ Hid (OwnB w wr A' l'.length c' l') ∧ Hid (l' = l6 ++ encP (m.o.mp.take k)) ∧ Hid (BoxM w wr w.heap.size ⟨⟨A0, c0, A1, c1, A2, c2, A3, c3⟩, At, ct⟩ m)) (fun _ s6 _ => m.o.mp.length - (intOf s6).toNat)
          case atStart => exact ⟨0, A6, c6, l6, Nat.zero_le _, rfl, rfl, HO, Lib.hid (by simp [encP]), HBX⟩
          case round =>
            clear HBX HO x0 x1 x2 x3 x4
            obtain ⟨k, A', c', l', hk, rfl, rfl, HO, HE, HBX⟩ := hrel
            by_cases hlt : k < m.o.mp.length
            · obtain ⟨b, o, p, A7, c7, A8, c8, hA, hp, hcell1, hcell2, hrd1, hrd2⟩ := HBX.out.rd.o.r3.at hlt
              have hA : A3 = some ⟨b, o, none⟩ := hA
              subst hA
              have hblt := World.block_lt_of_cell? _ _ hcell1
              have HX := Lib.hid hp
              have HRD1 := Lib.hid hrd1.fit
              have HRD2 := Lib.hid hrd2.fit
              have hki : (k : Int) < (m.o.mp.length : Int) := by omega
              have hk0 : (0 : Int) ≤ (k : Int) := by omega
              have hpl := HM.out.o.mp.len p (List.mem_of_getElem? hp)
              have lenk : Hid (l'.length ≤ 633) := Lib.hid (len_app HE.out len6.out (encP_take HM.out.o.mp.len hm8 k))
              obtain ⟨l'', e''⟩ : ∃ y, l' ++ Pk.encB p.1 = y := ⟨_, rfl⟩
              have lenk2 : Hid (l''.length ≤ 633 + 9 + p.1.length) := Lib.hid (len_byt e'' lenk.out)
              obtain ⟨l3', e3'⟩ : ∃ y, l'' ++ Pk.encB p.2 = y := ⟨_, rfl⟩
              have E'' := Lib.hid e''
              have E3' := Lib.hid e3'
              clear e'' e3' hp hrd1 hrd2
              obtain ⟨x0, x1, x2, x3, x4⟩ := five (t := 31) HBX.out.blk
              go_upto_region 16 with fail
              have hbd : Below wr.heap.size wr wr.drew := (Below.refl _ _).drew
              have HS : Hid ((fun w' => Blk w' w.heap.size 31 #[.slice A0 m.o.reg.length c0, .slice A1 m.o.q.length c1, .slice A2 m.o.lk.length c2, .slice (some ⟨b, o, none⟩) m.o.mp.length c3, .slice At m.t.length ct] ∧ w'.cell? ⟨b, o + k * 2, none⟩ = some (.slice A7 p.1.length c7) ∧ w'.cell? ⟨b, o + k * 2 + 1, none⟩ = some (.slice A8 p.2.length c8)) wr.drew) := Lib.hid ⟨HBX.out.blk.below hbd, (hbd.cell (p := ⟨b, o + k * 2, none⟩) hblt).trans hcell1, (hbd.cell (p := ⟨b, o + k * 2 + 1, none⟩) hblt).trans hcell2⟩
              refine wp_region_held_drew (S := fun w' => Blk w' w.heap.size 31 #[.slice A0 m.o.reg.length c0, .slice A1 m.o.q.length c1, .slice A2 m.o.lk.length c2, .slice (some ⟨b, o, none⟩) m.o.mp.length c3, .slice At m.t.length ct] ∧ w'.cell? ⟨b, o + k * 2, none⟩ = some (.slice A7 p.1.length c7) ∧ w'.cell? ⟨b, o + k * 2 + 1, none⟩ = some (.slice A8 p.2.length c8)) (by kernel_rfl) HS.out (fun _ => ?_)
              have HB1 := Lib.hid (HBX.out.below hbd)
              have HO1 := Lib.hid (own_below HO.out hbd)
              have HP1 := Lib.hid (HRD1.out.below hbd).fit
              have HP2 := Lib.hid (HRD2.out.below hbd).fit
              have hbl1 : Hid (b < wr.drew.heap.size) := Lib.hid (Nat.lt_of_lt_of_le hblt hbd.size)
              clear hbd HBX HO HRD1 HRD2 x0 x1 x2 x3 x4 hcell1 hcell2 hblt
              generalize wr.drew = wd at HS HB1 HO1 HP1 HP2 hbl1 ⊢
              refine wpAnyH_take (i := 0) (v := .slice A' l'.length c') rfl (by kernel_rfl) (by kernel_rfl) (by kernel_rfl) (fun _ _ _ h => h) (Or.inl ⟨by kernel_rfl, fun w _ => by go_simp⟩) HS.out ?_
              refine wpAnyH_take (i := 1) (v := .pointer (some ⟨w.heap.size, 0, none⟩)) rfl (by kernel_rfl) (by kernel_rfl) (by kernel_rfl) (fun _ _ _ h => h) (Or.inl ⟨by kernel_rfl, fun w _ => by go_simp⟩) HS.out ?_
              refine wpAnyH_take (i := 2) (v := .pointer (some ⟨w.heap.size, 3, none⟩)) rfl (by kernel_rfl) (by kernel_rfl) (by kernel_rfl) (fun _ _ _ h => h) (Or.inl ⟨by kernel_rfl, fun w _ => by go_simp⟩) HS.out ?_
              refine wpAnyH_take (i := 9) (v := .pointer (some ⟨w.heap.size, 0, none⟩)) rfl (by kernel_rfl) (by kernel_rfl) (by kernel_rfl) (fun _ _ _ h => h) (Or.inl ⟨by kernel_rfl, fun w _ => by go_simp⟩) HS.out ?_
              refine wpAnyH_take (i := 10) (v := .pointer (some ⟨w.heap.size, 3, none⟩)) rfl (by kernel_rfl) (by kernel_rfl) (by kernel_rfl) (fun _ _ _ h => h) (Or.inl ⟨by kernel_rfl, fun w _ => by go_simp⟩) HS.out ?_
              refine wpAnyH_take (i := 4) (v := .int .i64 (k : Int)) rfl (by kernel_rfl) (by kernel_rfl) (by kernel_rfl) (fun _ _ _ h => h) (Or.inl ⟨by kernel_rfl, fun w _ => by go_simp⟩) HS.out ?_
              refine wpAnyH_take (i := 12) (v := .int .i64 (k : Int)) rfl (by kernel_rfl) (by kernel_rfl) (by kernel_rfl) (fun _ _ _ h => h) (Or.inl ⟨by kernel_rfl, fun w _ => by go_simp⟩) HS.out ?_
              refine wpAnyH_take (i := 3) (v := .slice (some ⟨b, o, none⟩) m.o.mp.length c3) rfl (by kernel_rfl) (by kernel_rfl) (by kernel_rfl) (fun _ _ _ h => h) (Or.inl ⟨by kernel_rfl, fun w h => by obtain ⟨q0, q1, q2, q3, q4⟩ := five h.1; go_simp⟩) HS.out ?_
              refine wpAnyH_take (i := 11) (v := .slice (some ⟨b, o, none⟩) m.o.mp.length c3) rfl (by kernel_rfl) (by kernel_rfl) (by kernel_rfl) (fun _ _ _ h => h) (Or.inl ⟨by kernel_rfl, fun w h => by obtain ⟨q0, q1, q2, q3, q4⟩ := five h.1; go_simp⟩) HS.out ?_
              refine wpAnyH_take (i := 5) (v := .pointer (some ⟨b, o + k * 2, none⟩)) rfl (by kernel_rfl) (by kernel_rfl) (by kernel_rfl) (fun _ _ _ h => h) (Or.inl ⟨by kernel_rfl, fun w _ => by go_simp⟩) HS.out ?_
              refine wpAnyH_take (i := 13) (v := .pointer (some ⟨b, o + k * 2, none⟩)) rfl (by kernel_rfl) (by kernel_rfl) (by kernel_rfl) (fun _ _ _ h => h) (Or.inl ⟨by kernel_rfl, fun w _ => by go_simp⟩) HS.out ?_
              refine wpAnyH_take (i := 6) (v := .pointer (some ⟨b, o + k * 2, none⟩)) rfl (by kernel_rfl) (by kernel_rfl) (by kernel_rfl) (fun _ _ _ h => h) (Or.inl ⟨by kernel_rfl, fun w _ => by go_simp⟩) HS.out ?_
              refine wpAnyH_take (i := 14) (v := .pointer (some ⟨b, o + k * 2 + 1, none⟩)) rfl (by kernel_rfl) (by kernel_rfl) (by kernel_rfl) (fun _ _ _ h => h) (Or.inl ⟨by kernel_rfl, fun w _ => by go_simp⟩) HS.out ?_
              refine wpAnyH_take (i := 7) (v := .slice A7 p.1.length c7) rfl (by kernel_rfl) (by kernel_rfl) (by kernel_rfl) (fun _ _ _ h => h) (Or.inl ⟨by kernel_rfl, fun w h => by have q := h.2.1; go_simp⟩) HS.out ?_
              refine wpAnyH_take (i := 15) (v := .slice A8 p.2.length c8) rfl (by kernel_rfl) (by kernel_rfl) (by kernel_rfl) (fun _ _ _ h => h) (Or.inl ⟨by kernel_rfl, fun w h => by have q := h.2.2; go_simp⟩) HS.out ?_
              refine wpAnyH_ready (rs := [8]) (by kernel_rfl) (by simp) ?_
              refine AllReadyH.cons rfl (fun K hK => ?_) AllReadyH.nil
              go_simp
              refine (refputb_in (W := w) E''.out (Rd.own_ HO1.out) HP1.out (by have := lenk.out; unfold Lim; omega) HB1.out.bel).mono ?_
              rintro e w4 ⟨A9, c9, rfl, ho4, hB4, hb4⟩
              have HS : Hid ((fun w' => Blk w' w.heap.size 31 #[.slice A0 m.o.reg.length c0, .slice A1 m.o.q.length c1, .slice A2 m.o.lk.length c2, .slice (some ⟨b, o, none⟩) m.o.mp.length c3, .slice At m.t.length ct] ∧ w'.cell? ⟨b, o + k * 2, none⟩ = some (.slice A7 p.1.length c7) ∧ w'.cell? ⟨b, o + k * 2 + 1, none⟩ = some (.slice A8 p.2.length c8)) w4) := Lib.hid ⟨HS.out.1.below hb4, (hb4.cell (p := ⟨b, o + k * 2, none⟩) hbl1.out).trans HS.out.2.1, (hb4.cell (p := ⟨b, o + k * 2 + 1, none⟩) hbl1.out).trans HS.out.2.2⟩
              have hbl2 : Hid (b < w4.heap.size) := Lib.hid (by have := hb4.size; have := hbl1.out; omega)
              have HB2 := Lib.hid (HB1.out.below hb4)
              have HO2 := Lib.hid ho4
              have HP3 := Lib.hid (HP2.out.below hb4).fit
              clear ho4 hB4 hb4 HB1 HO1 HP1 HP2
              go_simp
              refine hK.out _ _ HS.out (fun _ => ?_)
              clear hK K
              refine wpAnyH_ready (rs := [16]) (by kernel_rfl) (by simp) ?_
              refine AllReadyH.cons rfl (fun K hK => ?_) AllReadyH.nil
              go_simp
              refine (refputb_in (W := w) E3'.out (Rd.own_ HO2.out) HP3.out (by have := lenk2.out; unfold Lim; omega) HB2.out.bel).mono ?_
              rintro e w5 ⟨A9, c9, rfl, ho5, hB5, hb5⟩
              have HS : Hid ((fun w' => Blk w' w.heap.size 31 #[.slice A0 m.o.reg.length c0, .slice A1 m.o.q.length c1, .slice A2 m.o.lk.length c2, .slice (some ⟨b, o, none⟩) m.o.mp.length c3, .slice At m.t.length ct] ∧ w'.cell? ⟨b, o + k * 2, none⟩ = some (.slice A7 p.1.length c7) ∧ w'.cell? ⟨b, o + k * 2 + 1, none⟩ = some (.slice A8 p.2.length c8)) w5) := Lib.hid ⟨HS.out.1.below hb5, (hb5.cell (p := ⟨b, o + k * 2, none⟩) hbl2.out).trans HS.out.2.1, (hb5.cell (p := ⟨b, o + k * 2 + 1, none⟩) hbl2.out).trans HS.out.2.2⟩
              go_simp
              refine hK.out _ _ HS.out (fun _ => ?_)
              clear hK K
              refine wpAnyH_ready (rs := [17]) (by kernel_rfl) (by simp) ?_
              refine AllReadyH.cons rfl (fun K hK => ?_) AllReadyH.nil
              go_simp
              refine hK.out _ _ HS.out (fun _ => ?_)
              clear hK K
              refine wpAnyH_done (by kernel_rfl) ?_ _
              go_wp2_with fail
              go_roundw
              case rel => exact ⟨k + 1, A9, c9, l3', by omega, by go_num, rfl, Lib.hid ho5, Lib.hid (by rw [← E3'.out, ← E''.out, HE.out, encP_snoc_at HX.out]; simp only [List.append_assoc]), Lib.hid (HB2.out.below hb5)⟩
              case measure => simp only [intOf]; omega
            · obtain rfl : k = m.o.mp.length := by omega
              rw [List.take_of_length_le (Nat.le_refl _)] at HE
              obtain ⟨x0, x1, x2, x3, x4⟩ := five (t := 31) HBX.out.blk
              obtain ⟨l7, hl7⟩ : ∃ x, l' = x := ⟨_, rfl⟩
              rw [hl7] at HE HO ⊢
              clear hl7
              have HE7 := HE
              have len7 : Hid (l7.length ≤ 633) := Lib.hid (len_app HE7.out len6.out (by have := encP_take HM.out.o.mp.len hm8 m.o.mp.length; rwa [List.take_of_length_le (Nat.le_refl _)] at this))
              obtain ⟨l8, e8⟩ : ∃ x, l7 ++ Pk.enc (Pk.held (m.t.length : Int)) = x := ⟨_, rfl⟩
              have len8 : Hid (l8.length ≤ 642) := Lib.hid (len_num e8 len7.out)
              have E8 := Lib.hid e8
              clear e8 HE
              go_wp2_with (first
                | (go_at_call 17; refine (refput_in (W := w) E8.out (by have := len7.out; unfold Lim; omega) (Rd.own_ HO.out) HBX.out.bel).mono ?_; rintro e w2 ⟨A6, c6, rfl, ho, hB, hb⟩; have HBX := Lib.hid (HBX.out.below hb); have HO := Lib.hid ho; clear ho hB hb x0 x1 x2 x3 x4; obtain ⟨x0, x1, x2, x3, x4⟩ := five (t := 31) HBX.out.blk)
                | fail)
              go_loopw [3, 7] (fun s3 s7 wr => ∃ (k : Nat) (A' : Option Addr) (c' : Nat) (l' : List Nat), k ≤ m.t.length ∧ s7 = .int .i64 (k : Int) ∧ s3 = .slice A' l'.length c' ∧ Hid (OwnB w wr A' l'.length c' l') ∧ Hid (l' = l8 ++ encT (m.t.take k)) ∧ Hid (BoxM w wr w.heap.size ⟨⟨A0, c0, A1, c1, A2, c2, A3, c3⟩, At, ct⟩ m)) (fun _ s7 _ => m.t.length - (intOf s7).toNat)
              case atStart => exact ⟨0, A6, c6, l8, Nat.zero_le _, rfl, rfl, HO, Lib.hid (by simp [encT]), HBX⟩
              case round =>
                clear HBX HO x0 x1 x2 x3 x4
                obtain ⟨k, A', c', l', hk, rfl, rfl, HO, HE, HBX⟩ := hrel
                by_cases hlt : k < m.t.length
                · obtain ⟨b, o, l, A7, c7, hA, hl, y0, y1, y2, y3, y4, hrd⟩ := HBX.out.rd.t.at hlt
                  have hA : At = some ⟨b, o, none⟩ := hA
                  subst hA
                  have HX := Lib.hid hl
                  have hki : (k : Int) < (m.t.length : Int) := by omega
                  have hk0 : (0 : Int) ≤ (k : Int) := by omega
                  have hv16 : l.v.length ≤ 16 := (HM.out.t.each l (List.mem_of_getElem? hl)).2.1
                  have hln := (HM.out.te l (List.mem_of_getElem? hl)).2.2
                  have hw1 : IntKind.i64.wrap (l.n + 1) = l.n + 1 := IntWalk.i64_in _ (by omega)
                  have lenk : Hid (l'.length ≤ 1130) := Lib.hid (len_app HE.out len8.out (encT_take (fun l hl => (HM.out.t.each l hl).2.1) ht8 k))
                  obtain ⟨p1, e1⟩ : ∃ y, l' ++ Pk.enc (Pk.held l.s) = y := ⟨_, rfl⟩
                  have ln1 : Hid (p1.length ≤ 1139) := Lib.hid (len_num e1 lenk.out)
                  obtain ⟨p2, e2⟩ : ∃ y, p1 ++ Pk.enc (Pk.held l.q) = y := ⟨_, rfl⟩
                  have ln2 : Hid (p2.length ≤ 1148) := Lib.hid (len_num e2 ln1.out)
                  obtain ⟨p3, e3⟩ : ∃ y, p2 ++ Pk.enc (Pk.held l.e) = y := ⟨_, rfl⟩
                  have ln3 : Hid (p3.length ≤ 1157) := Lib.hid (len_num e3 ln2.out)
                  obtain ⟨p4, e4⟩ : ∃ y, p3 ++ Pk.enc (Pk.held (l.n + 1)) = y := ⟨_, rfl⟩
                  have ln4 : Hid (p4.length ≤ 1166) := Lib.hid (len_num e4 ln3.out)
                  obtain ⟨p5, e5⟩ : ∃ y, p4 ++ Pk.encB l.v = y := ⟨_, rfl⟩
                  have Q1 := Lib.hid e1
                  have Q2 := Lib.hid e2
                  have Q3 := Lib.hid e3
                  have Q4 := Lib.hid e4
                  have Q5 := Lib.hid e5
                  have HEND : Hid (p5 = l8 ++ encT (m.t.take (k + 1))) := Lib.hid (by rw [encT_snoc_at hl, ← e5, ← e4, ← e3, ← e2, ← e1, HE.out]; simp only [List.append_assoc])
                  have HRD := Lib.hid hrd.fit
                  clear e1 e2 e3 e4 e5 hl hrd hln
                  obtain ⟨x0, x1, x2, x3, x4⟩ := five (t := 31) HBX.out.blk
                  go_upto_region 22 with fail
                  have hba : Below wr.heap.size wr (wr.alloc (.cells #[.int .i64 l.s, .int .i64 l.q, .int .i64 l.e, .slice A7 l.v.length c7, .int .i64 l.n] 79)) := (Below.refl _ _).alloc (Nat.le_refl _) _
                  have hbd := hba.drew
                  have HK : Hid (Blk (wr.alloc (.cells #[.int .i64 l.s, .int .i64 l.q, .int .i64 l.e, .slice A7 l.v.length c7, .int .i64 l.n] 79)).drew wr.heap.size 79 #[.int .i64 l.s, .int .i64 l.q, .int .i64 l.e, .slice A7 l.v.length c7, .int .i64 l.n]) := Lib.hid (Blk.new _ _ _).drew
                  have HB1 := Lib.hid (HBX.out.below hbd)
                  have HO1 := Lib.hid (own_below HO.out hbd)
                  have HP1 := Lib.hid (HRD.out.below hbd).fit
                  refine wp_region_held_drew (S := fun w' => Blk w' wr.heap.size 79 #[.int .i64 l.s, .int .i64 l.q, .int .i64 l.e, .slice A7 l.v.length c7, .int .i64 l.n]) (by kernel_rfl) HK.out (fun _ => ?_)
                  clear hba hbd HBX HO HRD x0 x1 x2 x3 x4 y0 y1 y2 y3 y4
                  generalize (wr.alloc (.cells #[.int .i64 l.s, .int .i64 l.q, .int .i64 l.e, .slice A7 l.v.length c7, .int .i64 l.n] 79)).drew = wd at HK HB1 HO1 HP1 ⊢
                  refine wpAnyH_take (i := 0) (v := .slice A' l'.length c') rfl (by kernel_rfl) (by kernel_rfl) (by kernel_rfl) (fun _ _ _ h => h) (Or.inl ⟨by kernel_rfl, fun w _ => by go_simp⟩) HK.out ?_
                  refine wpAnyH_take (i := 1) (v := .pointer (some ⟨wr.heap.size, 0, none⟩)) rfl (by kernel_rfl) (by kernel_rfl) (by kernel_rfl) (fun _ _ _ h => h) (Or.inl ⟨by kernel_rfl, fun w _ => by go_simp⟩) HK.out ?_
                  refine wpAnyH_take (i := 4) (v := .pointer (some ⟨wr.heap.size, 1, none⟩)) rfl (by kernel_rfl) (by kernel_rfl) (by kernel_rfl) (fun _ _ _ h => h) (Or.inl ⟨by kernel_rfl, fun w _ => by go_simp⟩) HK.out ?_
                  refine wpAnyH_take (i := 2) (v := .int .i64 l.s) rfl (by kernel_rfl) (by kernel_rfl) (by kernel_rfl) (fun _ _ _ h => h) (Or.inl ⟨by kernel_rfl, fun w h => by obtain ⟨q0, q1, q2, q3, q4⟩ := five h; go_simp⟩) HK.out ?_
                  refine wpAnyH_take (i := 5) (v := .int .i64 l.q) rfl (by kernel_rfl) (by kernel_rfl) (by kernel_rfl) (fun _ _ _ h => h) (Or.inl ⟨by kernel_rfl, fun w h => by obtain ⟨q0, q1, q2, q3, q4⟩ := five h; go_simp⟩) HK.out ?_
                  refine wpAnyH_ready (rs := [3]) (by kernel_rfl) (by simp) ?_
                  refine AllReadyH.cons rfl (fun K hK => ?_) AllReadyH.nil
                  go_simp
                  refine (refput_in (W := w) Q1.out (by have := lenk.out; unfold Lim; omega) (Rd.own_ HO1.out) HB1.out.bel).mono ?_
                  rintro e w12 ⟨A12, c12, rfl, ho, hB, hb⟩
                  have HK := Lib.hid (HK.out.below hb)
                  have HB2 := Lib.hid (HB1.out.below hb)
                  have HO2 := Lib.hid ho
                  have HP2 := Lib.hid (HP1.out.below hb).fit
                  clear ho hB hb HB1 HO1 HP1
                  go_simp
                  refine hK.out _ _ HK.out (fun _ => ?_)
                  clear hK K
                  refine wpAnyH_ready (rs := [6]) (by kernel_rfl) (by simp) ?_
                  refine AllReadyH.cons rfl (fun K hK => ?_) AllReadyH.nil
                  go_simp
                  refine (refput_in (W := w) Q2.out (by have := ln1.out; unfold Lim; omega) (Rd.own_ HO2.out) HB2.out.bel).mono ?_
                  rintro e w13 ⟨A13, c13, rfl, ho, hB, hb⟩
                  have HK := Lib.hid (HK.out.below hb)
                  have HB3 := Lib.hid (HB2.out.below hb)
                  have HO3 := Lib.hid ho
                  have HP3 := Lib.hid (HP2.out.below hb).fit
                  clear ho hB hb HB2 HO2 HP2
                  go_simp
                  refine hK.out _ _ HK.out (fun _ => ?_)
                  clear hK K
                  refine wpAnyH_ready (rs := [7]) (by kernel_rfl) (by simp) ?_
                  refine AllReadyH.cons rfl (fun K hK => ?_) AllReadyH.nil
                  go_simp
                  refine hK.out _ _ HK.out (fun _ => ?_)
                  clear hK K
                  refine wpAnyH_done (by kernel_rfl) ?_ _
                  go_upto_region 23 with fail
                  refine wp_region_held_drew (S := fun w' => Blk w' wr.heap.size 79 #[.int .i64 l.s, .int .i64 l.q, .int .i64 l.e, .slice A7 l.v.length c7, .int .i64 l.n]) (by kernel_rfl) HK.out.drew (fun _ => ?_)
                  have hbd : Below w13.heap.size w13 w13.drew := (Below.refl _ _).drew
                  have HK := Lib.hid (HK.out.below hbd)
                  have HB4 := Lib.hid (HB3.out.below hbd)
                  have HO4 := Lib.hid (own_below HO3.out hbd)
                  have HP4 := Lib.hid (HP3.out.below hbd).fit
                  clear hbd HB3 HO3 HP3
                  generalize w13.drew = we at HK HB4 HO4 HP4 ⊢
                  refine wpAnyH_take (i := 0) (v := .slice A13 p2.length c13) rfl (by kernel_rfl) (by kernel_rfl) (by kernel_rfl) (fun _ _ _ h => h) (Or.inl ⟨by kernel_rfl, fun w _ => by go_simp⟩) HK.out ?_
                  refine wpAnyH_take (i := 1) (v := .pointer (some ⟨wr.heap.size, 2, none⟩)) rfl (by kernel_rfl) (by kernel_rfl) (by kernel_rfl) (fun _ _ _ h => h) (Or.inl ⟨by kernel_rfl, fun w _ => by go_simp⟩) HK.out ?_
                  refine wpAnyH_take (i := 2) (v := .pointer (some ⟨wr.heap.size, 2, none⟩)) rfl (by kernel_rfl) (by kernel_rfl) (by kernel_rfl) (fun _ _ _ h => h) (Or.inl ⟨by kernel_rfl, fun w _ => by go_simp⟩) HK.out ?_
                  refine wpAnyH_take (i := 5) (v := .pointer (some ⟨wr.heap.size, 2, none⟩)) rfl (by kernel_rfl) (by kernel_rfl) (by kernel_rfl) (fun _ _ _ h => h) (Or.inl ⟨by kernel_rfl, fun w _ => by go_simp⟩) HK.out ?_
                  refine wpAnyH_take (i := 6) (v := .pointer (some ⟨wr.heap.size, 4, none⟩)) rfl (by kernel_rfl) (by kernel_rfl) (by kernel_rfl) (fun _ _ _ h => h) (Or.inl ⟨by kernel_rfl, fun w _ => by go_simp⟩) HK.out ?_
                  refine wpAnyH_take (i := 10) (v := .pointer (some ⟨wr.heap.size, 2, none⟩)) rfl (by kernel_rfl) (by kernel_rfl) (by kernel_rfl) (fun _ _ _ h => h) (Or.inl ⟨by kernel_rfl, fun w _ => by go_simp⟩) HK.out ?_
                  refine wpAnyH_take (i := 11) (v := .pointer (some ⟨wr.heap.size, 3, none⟩)) rfl (by kernel_rfl) (by kernel_rfl) (by kernel_rfl) (fun _ _ _ h => h) (Or.inl ⟨by kernel_rfl, fun w _ => by go_simp⟩) HK.out ?_
                  refine wpAnyH_take (i := 3) (v := .int .i64 l.e) rfl (by kernel_rfl) (by kernel_rfl) (by kernel_rfl) (fun _ _ _ h => h) (Or.inl ⟨by kernel_rfl, fun w h => by obtain ⟨q0, q1, q2, q3, q4⟩ := five h; go_simp⟩) HK.out ?_
                  refine wpAnyH_take (i := 7) (v := .int .i64 l.n) rfl (by kernel_rfl) (by kernel_rfl) (by kernel_rfl) (fun _ _ _ h => h) (Or.inl ⟨by kernel_rfl, fun w h => by obtain ⟨q0, q1, q2, q3, q4⟩ := five h; go_simp⟩) HK.out ?_
                  refine wpAnyH_take (i := 8) (v := .int .i64 (l.n + 1)) rfl (by kernel_rfl) (by kernel_rfl) (by kernel_rfl) (fun _ _ _ h => h) (Or.inl ⟨by kernel_rfl, fun w _ => by go_simp⟩) HK.out ?_
                  refine wpAnyH_take (i := 12) (v := .slice A7 l.v.length c7) rfl (by kernel_rfl) (by kernel_rfl) (by kernel_rfl) (fun _ _ _ h => h) (Or.inl ⟨by kernel_rfl, fun w h => by obtain ⟨q0, q1, q2, q3, q4⟩ := five h; go_simp⟩) HK.out ?_
                  refine wpAnyH_ready (rs := [4]) (by kernel_rfl) (by simp) ?_
                  refine AllReadyH.cons rfl (fun K hK => ?_) AllReadyH.nil
                  go_simp
                  refine (refput_in (W := w) Q3.out (by have := ln2.out; unfold Lim; omega) (Rd.own_ HO4.out) HB4.out.bel).mono ?_
                  rintro e w15 ⟨A15, c15, rfl, ho, hB, hb⟩
                  have HK := Lib.hid (HK.out.below hb)
                  have HB5 := Lib.hid (HB4.out.below hb)
                  have HO5 := Lib.hid ho
                  have HP5 := Lib.hid (HP4.out.below hb).fit
                  clear ho hB hb HB4 HO4 HP4
                  go_simp
                  refine hK.out _ _ HK.out (fun _ => ?_)
                  clear hK K
                  refine wpAnyH_ready (rs := [9]) (by kernel_rfl) (by simp) ?_
                  refine AllReadyH.cons rfl (fun K hK => ?_) AllReadyH.nil
                  go_simp
                  refine (refput_in (W := w) Q4.out (by have := ln3.out; unfold Lim; omega) (Rd.own_ HO5.out) HB5.out.bel).mono ?_
                  rintro e w16 ⟨A16, c16, rfl, ho, hB, hb⟩
                  have HK := Lib.hid (HK.out.below hb)
                  have HB6 := Lib.hid (HB5.out.below hb)
                  have HO6 := Lib.hid ho
                  have HP6 := Lib.hid (HP5.out.below hb).fit
                  clear ho hB hb HB5 HO5 HP5
                  go_simp
                  refine hK.out _ _ HK.out (fun _ => ?_)
                  clear hK K
                  refine wpAnyH_ready (rs := [13]) (by kernel_rfl) (by simp) ?_
                  refine AllReadyH.cons rfl (fun K hK => ?_) AllReadyH.nil
                  go_simp
                  refine (refputb_in (W := w) Q5.out (Rd.own_ HO6.out) HP6.out (by have := ln4.out; unfold Lim; omega) HB6.out.bel).mono ?_
                  rintro e w17 ⟨A17, c17, rfl, ho, hB, hb⟩
                  have HK := Lib.hid (HK.out.below hb)
                  go_simp
                  refine hK.out _ _ HK.out (fun _ => ?_)
                  clear hK K
                  refine wpAnyH_ready (rs := [14]) (by kernel_rfl) (by simp) ?_
                  refine AllReadyH.cons rfl (fun K hK => ?_) AllReadyH.nil
                  go_simp
                  refine hK.out _ _ HK.out (fun _ => ?_)
                  clear hK K
                  refine wpAnyH_done (by kernel_rfl) ?_ _
                  go_wp2_with fail
                  go_roundw
                  case rel => exact ⟨k + 1, A17, c17, p5, by omega, by go_num, rfl, Lib.hid ho, Lib.hid (HEND.out), Lib.hid (HB6.out.below hb)⟩
                  case measure => simp only [intOf]; omega
                · obtain rfl : k = m.t.length := by omega
                  rw [List.take_of_length_le (Nat.le_refl _)] at HE
                  obtain ⟨x0, x1, x2, x3, x4⟩ := five (t := 31) HBX.out.blk
                  go_wp2_with fail
                  go_ret
                  have he : m.enc = l' := by
                    rw [HE.out, ← E8.out, HE7.out, ← E6.out, HE5.out, ← E4.out, HE3.out, ← E2.out, ← E1.out]
                    unfold Mc.enc encN
                    simp only [List.append_assoc]
                  rw [he]
                  exact ⟨A', c', rfl, HO.out, HBX.out.bel, HBX.out.bel⟩
theorem refEncode_any {W w : World} {a : MA} {m : Mc} {B : Nat} (hM : m.Ok) (h : RdM w B a m) (hB : Below W.heap.size W w) :
    Calls Tryz.prog 18 #[machV a m] w (GotIn W w m.enc) :=
  (refEncode_raw hM h).mono fun en w' ⟨A', c', h1, h2, h3, h4⟩ => ⟨A', c', h1, own_of hB.size h2, hB.trans (h3.mono hB.size), h4⟩
end Go.Proofs.YtmekamgohonffaaGreat

namespace Go.Proofs.YtmekamgohonffaaGreat
open Go.RowKit
set_option linter.unusedVariables false
set_option maxHeartbeats 2000000 in
set_option maxRecDepth 100000 in
theorem seallay_raw {w : World} {A : Option Addr} {n c B : Nat} {l : List Nat} (hl : ∀ x ∈ l, x < 256) (hn : l.length ≤ 2000000) (h : Rd w B A n (bv l)) : Calls Tryz.prog 35 #[.slice A n c] w (GotIn w w (Fr.lay l)) := by
  have hln := h.length
  have C := Lib.hid (frsum_any (W := w) (c := c) hl (by unfold maxLen; omega) h (Below.refl _ _))
  have HH := Lib.hid h.fit
  have HN : Hid (n ≤ 2000000) := Lib.hid (by omega)
  obtain ⟨s, hs⟩ : ∃ s, Crc.sum l = s := ⟨_, rfl⟩
  have HLL : Hid (4 + n = (Fr.lay l).length) := Lib.hid (by rw [Fr.lay_len, hln])
  have HLE : Hid (Fr.lay l = Fr.four s ++ l) := Lib.hid (by unfold Fr.lay; rw [hs])
  rw [hs] at C
  obtain ⟨L, hL⟩ : ∃ x, Fr.lay l = x := ⟨_, rfl⟩
  rw [hL] at HLL HLE ⊢
  clear hl hn h hs hln hL
  go_enter Tryz.func35, Tryz.ntmps35
  go_wp2_with (first
    | (go_at_call 49; refine C.out.mono ?_; rintro en w2 ⟨A2, c2, he, ho2, hB2, hb2⟩
       have he2 : en = .returned (.slice A2 4 c2) := he
       have ho2' : OwnB w w2 A2 4 c2 (Fr.four s) := ho2
       clear he ho2
       subst he2
       have HS := Lib.hid ho2'
       have HB2 := Lib.hid hB2
       have HH2 := Lib.hid (HH.out.below hb2)
       clear ho2' hB2 hb2)
    | (at_builtin
       refine wpList_append_bytes (W := w) byteT (.tmp 4) (.tmp 5) rfl (by rfl) rfl HS.out rfl HH2.out (by have := HN.out; omega) HB2.out ?_
       intro A3 c3 w3 ho3 hr3 hB3
       have HO3 := Lib.hid ho3
       have HB3 := Lib.hid hB3
       clear ho3 hr3 hB3)
    | fail)
  go_ret
  refine ⟨A3, c3, by rw [← HLL.out]; rfl, ?_, HB3.out, HB3.out⟩
  rw [← HLL.out, HLE.out]
  exact HO3.out
theorem seallay {W w : World} {A : Option Addr} {n c B : Nat} {l L : List Nat} (he : Fr.lay l = L) (hl : ∀ x ∈ l, x < 256) (hn : l.length ≤ 2000000) (h : Rd w B A n (bv l)) (hB : Below W.heap.size W w) : Calls Tryz.prog 35 #[.slice A n c] w (GotIn W w L) := by
  subst he
  exact (seallay_raw hl hn h).mono fun e w' ⟨A, c, h1, h2, h3, h4⟩ => ⟨A, c, h1, own_of hB.size h2, hB.trans (h3.mono hB.size), h4⟩
set_option maxHeartbeats 2000000 in
set_option maxRecDepth 100000 in
theorem seallift_raw {w : World} {A : Option Addr} {n c B : Nat} {l : List Nat} (hb : ∀ x ∈ l, x < 256) (hl : l.length ≤ 2000000) (hc : n ≤ c) (h : Rd w B A n (bv l)) : Calls Tryz.prog 23 #[.slice A n c] w (GotU w w (Fr.unf l)) := by
  have hn := h.length
  have HRZ := Lib.hid h.fit
  have HL := Lib.hid hl
  have HBY := Lib.hid hb
  obtain ⟨i9, hi1, hi2, hi3, hi4⟩ := info_parts byteT.info
  clear hi2 hi4
  have HI1 := Lib.hid hi1
  have HI3 := Lib.hid hi3
  clear hl hb hi1 hi3 h
  by_cases h4 : n < 4
  · have hr : Fr.unf l = none := by unfold Fr.unf; rw [if_pos (by omega)]
    have HR := Lib.hid hr
    clear hn hr
    go_enter Tryz.func23, Tryz.ntmps23
    go_wp2
    go_ret2
    rw [HR.out]
    exact ⟨none, 0, rfl, own_nil _ _, Below.refl _ _, Below.refl _ _⟩
  · have HR4 : Hid (Rd w w.heap.size (cutAt A c 4) (n - 4) (bv (l.drop 4))) := Lib.hid (by rw [bv_drop]; exact (HRZ.out.drop (by omega) hc).fit)
    have HRT : Hid (Rd w w.heap.size A 4 (bv (l.take 4))) := Lib.hid (by rw [bv_take]; exact (HRZ.out.take (by omega)).fit)
    have HD : Hid (∀ x ∈ l.drop 4, x < 256) := Lib.hid (fun x hx => HBY.out x (List.mem_of_mem_drop hx))
    have HT : Hid (∀ x ∈ l.take 4, x < 256) := Lib.hid (fun x hx => HBY.out x (List.mem_of_mem_take hx))
    have HDL : Hid (n - 4 ≤ 2000000) := Lib.hid (by have := HL.out; omega)
    have HOP : Hid (Fr.unf l = if l.take 4 = Fr.four (Crc.sum (l.drop 4)) then some (l.drop 4) else none) := Lib.hid (by unfold Fr.unf; rw [if_neg (by omega)])
    have hs1 : ∀ w : World, (Instr.slice 23 (.slice A n c) none (some (.int .i64 4)) none).run Tryz.prog w = .ok (.slice A 4 c) w := fun w => run_slice_to (P := Tryz.prog) (t := 23) byteT.under HI1.out A n c 4 (by omega) w
    have hs2 : ∀ w : World, (Instr.slice 23 (.slice A n c) (some (.int .i64 4)) none none).run Tryz.prog w = .ok (.slice (cutAt A c 4) (n - 4) (c - 4)) w := fun w => run_slice_from (P := Tryz.prog) (t := 23) byteT.under HI1.out HI3.out A n c 4 (by omega) w
    clear hn hc HL HBY
    obtain ⟨T, hT⟩ : ∃ x, l.take 4 = x := ⟨_, rfl⟩
    obtain ⟨D, hD⟩ : ∃ x, l.drop 4 = x := ⟨_, rfl⟩
    obtain ⟨AD, hAD⟩ : ∃ x, cutAt A c 4 = x := ⟨_, rfl⟩
    obtain ⟨X, hX⟩ : ∃ x, Fr.unf l = x := ⟨_, rfl⟩
    rw [hX] at HOP ⊢
    rw [hT, hD] at HOP
    rw [hT] at HRT HT
    rw [hD] at HR4 HD
    rw [hAD] at HR4 hs2
    clear hT hD hX hAD
    go_enter Tryz.func23, Tryz.ntmps23
    go_upto_region 3 with fail
    go_quiet (fail)
    have hbd : Below w.heap.size w (w.drewN nq) := (Below.refl w.heap.size w).trans ⟨rfl, rfl, rfl, Nat.le_refl _, fun _ _ => rfl⟩
    have HR4 := Lib.hid (HR4.out.below hbd)
    have HRT := Lib.hid (HRT.out.below hbd)
    have HBD := Lib.hid hbd
    generalize w.drewN nq = wd at hbd HR4 HRT HBD ⊢
    clear hbd hs1 hs2
    have CS : Hid (Calls Tryz.prog 49 #[.slice AD (n - 4) (c - 4)] wd (GotIn w wd (Fr.four (Crc.sum D)))) := Lib.hid (frsum_any HD.out (by have := HDL.out; unfold maxLen; omega) HR4.out HBD.out)
    by_cases he : T = Fr.four (Crc.sum D)
    · have hd : decide (T = Fr.four (Crc.sum D)) = true := by simpa using he
      have hXd : X = some D := by rw [HOP.out, if_pos he]
      have HX := Lib.hid hXd
      clear he hXd HOP
      go_wp2_with (first
        | (go_at_call 49; refine CS.out.mono ?_; rintro en w2 ⟨A2, c2, he2, ho2, hB2, hb2⟩
           have he3 : en = .returned (.slice A2 4 c2) := he2
           have ho3 : OwnB w w2 A2 4 c2 (Fr.four (Crc.sum D)) := ho2
           clear he2 ho2
           subst he3
           have HS := Lib.hid (Rd.own_ ho3)
           have HB2 := Lib.hid hB2
           have HR42 := Lib.hid (HR4.out.below (hb2.mono HBD.out.size))
           have HRT2 := Lib.hid (HRT.out.below (hb2.mono HBD.out.size))
           clear ho3 hB2 hb2)
        | (go_at_call 48; refine (equal_any _ _ _ _ _ _ _ _ _ T (Fr.four (Crc.sum D)) HT.out (Fr.four_lt _) HRT2.out HS.out).mono ?_; rintro en wq ⟨rfl, rfl⟩; rw [hd])
        | (go_at_call 30; refine (clone_any (W := w) (by have := HDL.out; unfold Lim; omega) HR42.out HB2.out).mono ?_; rintro en w3 ⟨A3, c3, rfl, ho3, hB3, hb3⟩
           have HO3 := Lib.hid ho3
           have HB3 := Lib.hid hB3
           clear ho3 hB3 hb3)
        | fail)
      go_ret2
      rw [HX.out]
      exact ⟨A3, c3, rfl, HO3.out, HB3.out, HB3.out⟩
    · have hd : decide (T = Fr.four (Crc.sum D)) = false := by simpa using he
      have hXd : X = none := by rw [HOP.out, if_neg he]
      have HX := Lib.hid hXd
      clear he hXd HOP
      go_wp2_with (first
        | (go_at_call 49; refine CS.out.mono ?_; rintro en w2 ⟨A2, c2, he2, ho2, hB2, hb2⟩
           have he3 : en = .returned (.slice A2 4 c2) := he2
           have ho3 : OwnB w w2 A2 4 c2 (Fr.four (Crc.sum D)) := ho2
           clear he2 ho2
           subst he3
           have HS := Lib.hid (Rd.own_ ho3)
           have HB2 := Lib.hid hB2
           have HRT2 := Lib.hid (HRT.out.below (hb2.mono HBD.out.size))
           clear ho3 hB2 hb2)
        | (go_at_call 48; refine (equal_any _ _ _ _ _ _ _ _ _ T (Fr.four (Crc.sum D)) HT.out (Fr.four_lt _) HRT2.out HS.out).mono ?_; rintro en wq ⟨rfl, rfl⟩; rw [hd])
        | fail)
      go_ret2
      rw [HX.out]
      exact ⟨none, 0, rfl, own_nil _ _, HB2.out, HB2.out⟩
theorem seallift {W w : World} {A : Option Addr} {n c B : Nat} {l : List Nat} {r : Option (List Nat)} (he : Fr.unf l = r) (hb : ∀ x ∈ l, x < 256) (hl : l.length ≤ 2000000) (hc : n ≤ c) (h : Rd w B A n (bv l)) (hB : Below W.heap.size W w) : Calls Tryz.prog 23 #[.slice A n c] w (GotU W w r) := by
  subst he
  exact (seallift_raw hb hl hc h).mono fun e w' ⟨A, c, h1, h2, h3, h4⟩ => ⟨A, c, h1, own_of hB.size h2, hB.trans (h3.mono hB.size), h4⟩
end Go.Proofs.YtmekamgohonffaaGreat

namespace Go.Proofs.YtmekamgohonffaaGreat
open Go.RowKit
set_option linter.unusedVariables false
theorem index_any (w : World) {A : Option Addr} {n c B : Nat} {zs : List Int} (x : Int) (h : Rd w B A n (iv zs)) (hn : n ≤ maxLen) :
    Calls Tryz.prog 116 #[.slice A n c, .int .i64 x] w fun e w' => e = .returned (.int .i64 (placeI zs x)) ∧ w = w' := by
  have hl : zs.length = n := by have := h.1; rwa [iv_length] at this
  unfold maxLen at hn
  have HN : Hid (n ≤ 9223372036854775807) := Lib.hid (by omega)
  have HL := Lib.hid hl
  have H := Lib.hid h
  clear h hl hn
  go_enter Tryz.func116, Tryz.ntmps116
  go_wp2
  go_loopw [8] (fun i wr => ∃ k : Nat, k ≤ n ∧ i = .int .i64 k ∧ Hid (∀ j, j < k → zs[j]? ≠ some x) ∧ w = wr) (fun i _ => n - (intOf i).toNat)
  case atStart => exact ⟨0, Nat.zero_le _, rfl, Lib.hid (fun j hj => absurd hj (by omega)), rfl⟩
  case round =>
    obtain ⟨k, hk, rfl, HS, rfl⟩ := hrel
    by_cases hlt : k < n
    · obtain ⟨z, hz⟩ : ∃ z, zs[k]? = some z := ⟨_, List.getElem?_eq_getElem (by have := HL.out; omega)⟩
      obtain ⟨b, o, rfl, _⟩ := H.out.int_at hlt
      have hc := H.out.int_cell hlt hz
      have hv : IntKind.i64.wrap ((k : Int) + 1) = (k : Int) + 1 := IntWalk.i64_in _ (by have := HN.out; omega)
      have HZ := Lib.hid hz
      clear hz
      by_cases he : z = x
      · subst he
        have HP := Lib.hid (place_first HZ.out HS.out)
        go_wp2
        go_ret
        exact ⟨ret_int HP.out.symm, rfl⟩
      · have he' : (x == z) = false := by simpa using fun h => he h.symm
        have HE := Lib.hid he
        clear he
        go_wp2
        go_roundw
        case rel =>
          refine ⟨k + 1, by omega, by go_num, Lib.hid (fun j hj => ?_), trivial⟩
          rcases Nat.lt_or_ge j k with h1 | h1
          · exact HS.out j h1
          · obtain rfl : j = k := by omega
            rw [HZ.out]
            intro h; injection h with h; exact HE.out h
        case measure => simp [intOf]; omega
    · obtain rfl : k = n := by omega
      have HP := Lib.hid (place_none (s := zs) (x := x) (by rw [HL.out]; exact HS.out))
      go_wp2
      go_ret
      exact ⟨ret_int HP.out.symm, rfl⟩
theorem contains_any (w : World) {A : Option Addr} {n c B : Nat} {zs : List Int} (x : Int) (h : Rd w B A n (iv zs)) (hn : n ≤ maxLen) :
    Calls Tryz.prog 90 #[.slice A n c, .int .i64 x] w fun e w' => e = .returned (.bool (decide (x ∈ zs))) ∧ w = w' := by
  have H := Lib.hid h
  clear h
  by_cases hx : x ∈ zs
  · obtain ⟨k, hk, hk1, _⟩ := place_lt hx
    have h0 : (0 : Int) ≤ (k : Int) := by omega
    have HP := Lib.hid hk
    rw [decide_eq_true hx]
    clear hk hx
    go_enter Tryz.func90, Tryz.ntmps90
    go_wp2_with (first
      | (go_at_call 116; refine (index_any _ x H.out hn).mono ?_; rintro e w2 ⟨rfl, rfl⟩; rw [HP.out])
      | fail)
    go_ret
    exact ⟨rfl, rfl⟩
  · have HP := Lib.hid (place_no hx)
    rw [decide_eq_false hx]
    clear hx
    go_enter Tryz.func90, Tryz.ntmps90
    go_wp2_with (first
      | (go_at_call 116; refine (index_any _ x H.out hn).mono ?_; rintro e w2 ⟨rfl, rfl⟩; rw [HP.out])
      | fail)
    go_ret
    exact ⟨rfl, rfl⟩
end Go.Proofs.YtmekamgohonffaaGreat

