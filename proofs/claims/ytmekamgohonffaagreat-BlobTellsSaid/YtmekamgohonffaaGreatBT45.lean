/- MachRefE MachRefN LockWalks MachChk -/
import Derived.Test.YtmekamgohonffaaGreatBT00
import Derived.Test.YtmekamgohonffaaGreatBT08
import Derived.Test.YtmekamgohonffaaGreatBT14
import Derived.Test.YtmekamgohonffaaGreatBT15
import Derived.Test.YtmekamgohonffaaGreatBT16
import Derived.Test.YtmekamgohonffaaGreatBT17
import Derived.Test.YtmekamgohonffaaGreatBT25
import Derived.Test.YtmekamgohonffaaGreatBT26
import Derived.Test.YtmekamgohonffaaGreatBT44
import Derived.Deep.RegionHeld3
import Derived.Deep.RegionLaw
namespace Go.Proofs.YtmekamgohonffaaGreat
open Go.RowKit
set_option linter.unusedVariables false
theorem refput_in {W w : World} {l : List Nat} {A : Option Addr} {n c B : Nat} {N : Int} {l' : List Nat} (he : l ++ Pk.enc (Pk.held N) = l') (hn : Lim 20 n) (hr : Rd w B A n (bv l)) (hB : Below W.heap.size W w) :
 Calls Tryz.prog 17 #[.slice A n c, .int .i64 N] w (GotIn W w l') := by
 subst he
 exact (refnum_any l A n c B N hn w hr).mono fun e w' h => GotIn.of hB h
theorem refputb_in {W w : World} {l x : List Nat} {A : Option Addr} {n c B : Nat} {A' : Option Addr} {n' c' B' : Nat} {l' : List Nat} (he : l ++ Pk.encB x = l') (hr : Rd w B A n (bv l)) (hr' : Rd w B' A' n' (bv x)) (hn : Lim 20 (l.length + x.length)) (hB : Below W.heap.size W w) :
 Calls Tryz.prog 16 #[.slice A n c, .slice A' n' c'] w (GotIn W w l') := by
 subst he
 have h1 := hr.length
 have h2 := hr'.length
 have h3 := hn.out
 exact (refbytes_any l x A n c B A' n' c' B' (by unfold Lim; omega) (by unfold Lim; omega) (by unfold Lim; omega) w hr hr').mono fun e w' h => GotIn.of hB h
theorem len_num {l l' : List Nat} {k : Nat} {N : Int} (he : l ++ Pk.enc (Pk.held N) = l') (h : l.length <= k) : l'.length <= k + 9 := by
 subst he
 have := (Pk.enc_length (Pk.held N)).2; simp; omega
theorem len_byt {l l' x : List Nat} {k : Nat} (he : l ++ Pk.encB x = l') (h : l.length <= k) : l'.length <= k + 9 + x.length := by
 subst he
 have := encB_length x; simp; omega
set_option maxHeartbeats 4000000 in
set_option maxRecDepth 100000 in
theorem refPutEntry_raw {w : World} {l : List Nat} {A : Option Addr} {n c B : Nat} {ca : CA} {e : En} {B' : Nat} (hl : l.length <= 1000000) (hc : e.c.Fits) (h : Rd w B A n (bv l)) (h' : RdC w B' ca e.c) :
 Calls Tryz.prog 19 #[.slice A n c, entV ca e] w (GotIn w w (l ++ e.enc)) := by
 obtain ⟨Ak, ck, Av, cv, Ao, co⟩ := ca
 have hn : l.length = n := by have := h.length; simpa using this
 subst hn
 have b0 : Below w.heap.size w (w.alloc (.cells #[.int .i64 e.s, .int .i64 e.q, .int .i64 e.c.kind, .int .i64 e.c.who, .slice Ak e.c.key.length ck, .slice Av e.c.val.length cv, .slice Ao e.c.old.length co] 43)) := (Below.refl _ _).alloc lR _
 have HL := hD hl
 have hend : Hid (l ++ e.enc = ((((((l ++ Pk.enc (Pk.held e.s)) ++ Pk.enc (Pk.held e.q)) ++ Pk.enc (Pk.held e.c.kind)) ++ Pk.enc (Pk.held e.c.who)) ++ Pk.encB e.c.key) ++ Pk.encB e.c.val) ++ Pk.encB e.c.old) := hD (by unfold En.enc; simp only [List.append_assoc])
 obtain ⟨l2, e2⟩ : ∃ x, l ++ Pk.enc (Pk.held e.s) = x := ⟨_, rfl⟩
 obtain ⟨l3, e3⟩ : ∃ x, l2 ++ Pk.enc (Pk.held e.q) = x := ⟨_, rfl⟩
 obtain ⟨l4, e4⟩ : ∃ x, l3 ++ Pk.enc (Pk.held e.c.kind) = x := ⟨_, rfl⟩
 obtain ⟨l5, e5⟩ : ∃ x, l4 ++ Pk.enc (Pk.held e.c.who) = x := ⟨_, rfl⟩
 obtain ⟨l7, e7⟩ : ∃ x, l5 ++ Pk.encB e.c.key = x := ⟨_, rfl⟩
 obtain ⟨l8, e8⟩ : ∃ x, l7 ++ Pk.encB e.c.val = x := ⟨_, rfl⟩
 obtain ⟨l9, e9⟩ : ∃ x, l8 ++ Pk.encB e.c.old = x := ⟨_, rfl⟩
 rw [e2, e3, e4, e5, e7, e8, e9] at hend
 have E2 := hD e2
 have E3 := hD e3
 have E4 := hD e4
 have E5 := hD e5
 have E7 := hD e7
 have E8 := hD e8
 have E9 := hD e9
 clear e2 e3 e4 e5 e7 e8 e9
 have HF := hD hc
 have HK := hD (Blk.new w 43 #[.int .i64 e.s, .int .i64 e.q, .int .i64 e.c.kind, .int .i64 e.c.who, .slice Ak e.c.key.length ck, .slice Av e.c.val.length cv, .slice Ao e.c.old.length co])
 have HR := hD (h.fit.below b0)
 have HC := hD (h'.fit.below b0)
 have HB := hD b0
 clear h h' hl hc b0
 unfold entV entC
 go_enter Tryz.func19, Tryz.ntmps19
 go_upto_region 1 with fail
 generalize w.alloc (.cells #[.int .i64 e.s, .int .i64 e.q, .int .i64 e.c.kind, .int .i64 e.c.who, .slice Ak e.c.key.length ck, .slice Av e.c.val.length cv, .slice Ao e.c.old.length co] 43) = wa at HK HR HC HB |-
 obtain ⟨x0, x1, x2, x3, x4, x5, x6⟩ := seven HK.out
 refine wp_region_held_drew (S := fun w' => Blk w' w.heap.size 43 #[.int .i64 e.s, .int .i64 e.q, .int .i64 e.c.kind, .int .i64 e.c.who, .slice Ak e.c.key.length ck, .slice Av e.c.val.length cv, .slice Ao e.c.old.length co]) (by kernel_rfl) HK.out.drew (fun _ => ?_)
 have hbd : Below wa.heap.size wa wa.drew := (Below.refl _ _).drew
 have HS := hD (HK.out.below hbd)
 have HR1 := hD (HR.out.drew)
 have HC1 := hD (HC.out.fit.below hbd).fit
 have HB1 := hD (HB.out.drew)
 clear hbd HK HR HC HB x0 x1 x2 x3 x4 x5 x6
 generalize wa.drew = w1 at HS HR1 HC1 HB1 |-
 have len1 := HL
 refine tkL (i := 0) (v := .slice A l.length c) rfl (fun w _ => by go_simp) HS.out ?_
 refine tkL (i := 1) (v := .pointer (some ⟨w.heap.size, 0, none⟩)) rfl (fun w _ => by go_simp) HS.out ?_
 refine tkL (i := 4) (v := .pointer (some ⟨w.heap.size, 1, none⟩)) rfl (fun w _ => by go_simp) HS.out ?_
 refine tkL (i := 7) (v := .pointer (some ⟨w.heap.size, 2, none⟩)) rfl (fun w _ => by go_simp) HS.out ?_
 refine tkL (i := 8) (v := .pointer (some ⟨w.heap.size, 2, none⟩)) rfl (fun w _ => by go_simp) HS.out ?_
 refine tkL (i := 11) (v := .pointer (some ⟨w.heap.size, 2, none⟩)) rfl (fun w _ => by go_simp) HS.out ?_
 refine tkL (i := 12) (v := .pointer (some ⟨w.heap.size, 3, none⟩)) rfl (fun w _ => by go_simp) HS.out ?_
 refine tkL (i := 2) (v := .int .i64 e.s) rfl (fun w h => by obtain ⟨q0, q1, q2, q3, q4, q5, q6⟩ := seven h; go_simp) HS.out ?_
 refine tkL (i := 5) (v := .int .i64 e.q) rfl (fun w h => by obtain ⟨q0, q1, q2, q3, q4, q5, q6⟩ := seven h; go_simp) HS.out ?_
 refine tkL (i := 9) (v := .int .i64 e.c.kind) rfl (fun w h => by obtain ⟨q0, q1, q2, q3, q4, q5, q6⟩ := seven h; go_simp) HS.out ?_
 refine tkL (i := 13) (v := .int .i64 e.c.who) rfl (fun w h => by obtain ⟨q0, q1, q2, q3, q4, q5, q6⟩ := seven h; go_simp) HS.out ?_
 refine rdH (rs := [3]) ?_
 refine AllReadyH.cons rfl (fun K hK => ?_) AllReadyH.nil
 go_simp
 refine (refput_in (W := w) E2.out (by have := len1.out; unfold Lim; omega) HR1.out HB1.out).mono ?_
 rintro en w2 ⟨A2, c2, rfl, ho2, hB2, hb2⟩
 have HS := hD (HS.out.below hb2)
 have HC2 := hD (HC1.out.below' hb2)
 have HB2 := hD hB2
 have HO2 := hD ho2
 have len2 := hD (len_num E2.out len1.out)
 clear hb2 hB2 ho2
 go_simp
 refine hK.out _ _ HS.out (fun _ => ?_)
 clear hK K
 refine rdH (rs := [6]) ?_
 refine AllReadyH.cons rfl (fun K hK => ?_) AllReadyH.nil
 go_simp
 refine (refput_in (W := w) E3.out (by have := len2.out; unfold Lim; omega) (Rd.own_ HO2.out) HB2.out).mono ?_
 rintro en w3 ⟨A3, c3, rfl, ho3, hB3, hb3⟩
 have HS := hD (HS.out.below hb3)
 have HC3 := hD (HC2.out.below' hb3)
 have HB3 := hD hB3
 have HO3 := hD ho3
 have len3 := hD (len_num E3.out len2.out)
 clear hb3 hB3 ho3
 go_simp
 refine hK.out _ _ HS.out (fun _ => ?_)
 clear hK K
 refine rdH (rs := [10]) ?_
 refine AllReadyH.cons rfl (fun K hK => ?_) AllReadyH.nil
 go_simp
 refine (refput_in (W := w) E4.out (by have := len3.out; unfold Lim; omega) (Rd.own_ HO3.out) HB3.out).mono ?_
 rintro en w4 ⟨A4, c4, rfl, ho4, hB4, hb4⟩
 have HS := hD (HS.out.below hb4)
 have HC4 := hD (HC3.out.below' hb4)
 have HB4 := hD hB4
 have HO4 := hD ho4
 have len4 := hD (len_num E4.out len3.out)
 clear hb4 hB4 ho4
 go_simp
 refine hK.out _ _ HS.out (fun _ => ?_)
 clear hK K
 refine rdH (rs := [14]) ?_
 refine AllReadyH.cons rfl (fun K hK => ?_) AllReadyH.nil
 go_simp
 refine (refput_in (W := w) E5.out (by have := len4.out; unfold Lim; omega) (Rd.own_ HO4.out) HB4.out).mono ?_
 rintro en w5 ⟨A5, c5, rfl, ho5, hB5, hb5⟩
 have HS := hD (HS.out.below hb5)
 have HC5 := hD (HC4.out.below' hb5)
 have HB5 := hD hB5
 have HO5 := hD ho5
 have len5 := hD (len_num E5.out len4.out)
 clear hb5 hB5 ho5
 go_simp
 refine hK.out _ _ HS.out (fun _ => ?_)
 clear hK K
 refine rdH (rs := [15]) ?_
 refine AllReadyH.cons rfl (fun K hK => ?_) AllReadyH.nil
 go_simp
 refine hK.out _ _ HS.out (fun _ => ?_)
 clear hK K
 refine wpAnyH_done (by kernel_rfl) ?_ _
 go_upto_region 2 with fail
 refine wp_region_held_drew (S := fun w' => Blk w' w.heap.size 43 #[.int .i64 e.s, .int .i64 e.q, .int .i64 e.c.kind, .int .i64 e.c.who, .slice Ak e.c.key.length ck, .slice Av e.c.val.length cv, .slice Ao e.c.old.length co]) (by kernel_rfl) HS.out.drew (fun _ => ?_)
 have hbd : Below w5.heap.size w5 w5.drew := (Below.refl _ _).drew
 have HS := hD (HS.out.below hbd)
 have HC6 := hD (HC5.out.below' hbd)
 have HB6 := hD (HB5.out.drew)
 have HO6 := hD (own_below HO5.out hbd)
 have len6 := len5
 clear hbd HB5 HO5 HC5 len5
 generalize w5.drew = w6 at HS HC6 HB6 HO6 |-
 refine tkL (i := 0) (v := .slice A5 l5.length c5) rfl (fun w _ => by go_simp) HS.out ?_
 refine tkL (i := 1) (v := .pointer (some ⟨w.heap.size, 2, none⟩)) rfl (fun w _ => by go_simp) HS.out ?_
 refine tkL (i := 2) (v := .pointer (some ⟨w.heap.size, 4, none⟩)) rfl (fun w _ => by go_simp) HS.out ?_
 refine tkL (i := 5) (v := .pointer (some ⟨w.heap.size, 2, none⟩)) rfl (fun w _ => by go_simp) HS.out ?_
 refine tkL (i := 6) (v := .pointer (some ⟨w.heap.size, 5, none⟩)) rfl (fun w _ => by go_simp) HS.out ?_
 refine tkL (i := 9) (v := .pointer (some ⟨w.heap.size, 2, none⟩)) rfl (fun w _ => by go_simp) HS.out ?_
 refine tkL (i := 10) (v := .pointer (some ⟨w.heap.size, 6, none⟩)) rfl (fun w _ => by go_simp) HS.out ?_
 refine tkL (i := 3) (v := .slice Ak e.c.key.length ck) rfl (fun w h => by obtain ⟨q0, q1, q2, q3, q4, q5, q6⟩ := seven h; go_simp) HS.out ?_
 refine tkL (i := 7) (v := .slice Av e.c.val.length cv) rfl (fun w h => by obtain ⟨q0, q1, q2, q3, q4, q5, q6⟩ := seven h; go_simp) HS.out ?_
 refine tkL (i := 11) (v := .slice Ao e.c.old.length co) rfl (fun w h => by obtain ⟨q0, q1, q2, q3, q4, q5, q6⟩ := seven h; go_simp) HS.out ?_
 refine rdH (rs := [4]) ?_
 refine AllReadyH.cons rfl (fun K hK => ?_) AllReadyH.nil
 go_simp
 refine (refputb_in (W := w) E7.out (Rd.own_ HO6.out) HC6.out.rk (by have := len6.out; have := HF.out.key.1; have := HF.out.key.1; have := HF.out.val.1; unfold Lim; omega) HB6.out).mono ?_
 rintro en w7 ⟨A7, c7, rfl, ho7, hB7, hb7⟩
 have HS := hD (HS.out.below hb7)
 have HC7 := hD (HC6.out.below' hb7)
 have HB7 := hD hB7
 have HO7 := hD ho7
 have len7 := hD (len_byt E7.out len6.out)
 clear hb7 hB7 ho7
 go_simp
 refine hK.out _ _ HS.out (fun _ => ?_)
 clear hK K
 refine rdH (rs := [8]) ?_
 refine AllReadyH.cons rfl (fun K hK => ?_) AllReadyH.nil
 go_simp
 refine (refputb_in (W := w) E8.out (Rd.own_ HO7.out) HC7.out.rv (by have := len7.out; have := HF.out.val.1; have := HF.out.key.1; have := HF.out.val.1; unfold Lim; omega) HB7.out).mono ?_
 rintro en w8 ⟨A8, c8, rfl, ho8, hB8, hb8⟩
 have HS := hD (HS.out.below hb8)
 have HC8 := hD (HC7.out.below' hb8)
 have HB8 := hD hB8
 have HO8 := hD ho8
 have len8 := hD (len_byt E8.out len7.out)
 clear hb8 hB8 ho8
 go_simp
 refine hK.out _ _ HS.out (fun _ => ?_)
 clear hK K
 refine rdH (rs := [12]) ?_
 refine AllReadyH.cons rfl (fun K hK => ?_) AllReadyH.nil
 go_simp
 refine (refputb_in (W := w) E9.out (Rd.own_ HO8.out) HC8.out.ro (by have := len8.out; have := HF.out.old.1; have := HF.out.key.1; have := HF.out.val.1; unfold Lim; omega) HB8.out).mono ?_
 rintro en w9 ⟨A9, c9, rfl, ho9, hB9, hb9⟩
 have HS := hD (HS.out.below hb9)
 have HC9 := hD (HC8.out.below' hb9)
 have HB9 := hD hB9
 have HO9 := hD ho9
 have len9 := hD (len_byt E9.out len8.out)
 clear hb9 hB9 ho9
 go_simp
 refine hK.out _ _ HS.out (fun _ => ?_)
 clear hK K
 refine rdH (rs := [13]) ?_
 refine AllReadyH.cons rfl (fun K hK => ?_) AllReadyH.nil
 go_simp
 refine hK.out _ _ HS.out (fun _ => ?_)
 clear hK K
 refine wpAnyH_done (by kernel_rfl) ?_ _
 go_wp2_with fail
 go_ret
 rw [hend.out]
 exact ⟨A9, c9, rfl, HO9.out, HB9.out, HB9.out⟩
theorem refPutEntry_any {W w : World} {l : List Nat} {A : Option Addr} {n c B : Nat} {ca : CA} {e : En} {B' : Nat} (hl : l.length <= 1000000) (hc : e.c.Fits) (h : Rd w B A n (bv l)) (h' : RdC w B' ca e.c) (hB : Below W.heap.size W w) :
 Calls Tryz.prog 19 #[.slice A n c, entV ca e] w (GotIn W w (l ++ e.enc)) :=
 (refPutEntry_raw hl hc h h').mono fun en w' ⟨A', c', h1, h2, h3, h4⟩ => ⟨A', c', h1, own_of hB.size h2, hB.trans (h3.mono hB.size), h4⟩
structure BoxM (w wx : World) (b : Nat) (a : MA) (m : Mc) : Prop where
 blk : Blk wx b 31 (machC a m)
 rd : RdM wx w.heap.size a m
 bel : Below w.heap.size w wx
theorem BoxM.below {w wx wy : World} {b : Nat} {a : MA} {m : Mc} (h : BoxM w wx b a m) (hb : Below wx.heap.size wx wy) : BoxM w wy b a m :=
 ⟨h.blk.below hb, h.rd.below (hb.mono h.bel.size), h.bel.trans (hb.mono h.bel.size)⟩
theorem BoxM.start {w : World} {a : MA} {m : Mc} {B : Nat} (h : RdM w B a m) : BoxM w (w.alloc (.cells (machC a m) 31)) w.heap.size a m :=
 ⟨Blk.new _ _ _, h.fit.below ((Below.refl _ _).alloc lR _), (Below.refl _ _).alloc lR _⟩
theorem encQ_take {qs : List (List Nat)} (h : ∀ x ∈ qs, x.length <= 16) (hq : qs.length <= 8) (k : Nat) : (encQ (qs.take k)).length <= 200 := by
 have := encQ_length (qs := qs.take k) fun x hx => h x (List.mem_of_mem_take hx)
 have h2 : (qs.take k).length <= qs.length := by rw [List.length_take]; omega
 omega
theorem encs_take {zs : List Int} (hq : zs.length <= 5) (k : Nat) : (Pk.encs (zs.take k)).length <= 45 := by
 have := Pk.encs_length (zs.take k)
 have h2 : (zs.take k).length <= zs.length := by rw [List.length_take]; omega
 omega
theorem encP_take {ps : List Pr} (h : ∀ p ∈ ps, p.1.length <= 8 /\ p.2.length <= 16) (hq : ps.length <= 8) (k : Nat) : (encP (ps.take k)).length <= 336 := by
 have := encP_length (ps := ps.take k) fun x hx => h x (List.mem_of_mem_take hx)
 have h2 : (ps.take k).length <= ps.length := by rw [List.length_take]; omega
 omega
theorem encT_take {ls : List Ls} (h : ∀ l ∈ ls, l.v.length <= 16) (hq : ls.length <= 8) (k : Nat) : (encT (ls.take k)).length <= 488 := by
 have := encT_length (ls := ls.take k) fun x hx => h x (List.mem_of_mem_take hx)
 have h2 : (ls.take k).length <= ls.length := by rw [List.length_take]; omega
 omega
theorem encs_snoc_at {zs : List Int} {k : Nat} {z : Int} (h : zs[k]? = some z) : Pk.encs (zs.take (k + 1)) = Pk.encs (zs.take k) ++ Pk.enc (Pk.held z) := by
 rw [List.take_add_one, h]; exact Pk.encs_snoc _ _
theorem encQ_snoc_at {qs : List (List Nat)} {k : Nat} {x : List Nat} (h : qs[k]? = some x) : encQ (qs.take (k + 1)) = encQ (qs.take k) ++ Pk.encB x := by
 rw [List.take_add_one, h]; exact encQ_snoc _ _
theorem encP_snoc_at {ps : List Pr} {k : Nat} {p : Pr} (h : ps[k]? = some p) : encP (ps.take (k + 1)) = encP (ps.take k) ++ Pk.encB p.1 ++ Pk.encB p.2 := by
 rw [List.take_add_one, h]; exact encP_snoc _ _
theorem encT_snoc_at {ls : List Ls} {k : Nat} {l : Ls} (h : ls[k]? = some l) : encT (ls.take (k + 1)) = encT (ls.take k) ++ Pk.enc (Pk.held l.s) ++ Pk.enc (Pk.held l.q) ++ Pk.enc (Pk.held l.e) ++ Pk.enc (Pk.held (l.n + 1)) ++ Pk.encB l.v := by
 rw [List.take_add_one, h]; exact encT_snoc _ _
theorem len_app {l l' x : List Nat} {k j : Nat} (he : l' = l ++ x) (h : l.length <= k) (hx : x.length <= j) : l'.length <= k + j := by
 subst he; simp; omega
set_option maxHeartbeats 4000000 in
set_option maxRecDepth 100000 in
theorem refEncode_raw {w : World} {a : MA} {m : Mc} {B : Nat} (hM : m.Ok) (h : RdM w B a m) :
 Calls Tryz.prog 18 #[machV a m] w (GotIn w w m.enc) := by
 obtain ⟨⟨A0, c0, A1, c1, A2, c2, A3, c3⟩, At, ct⟩ := a
 have HBX := hD (BoxM.start h)
 have HM := hD hM
 have hq8 := hM.o.ql
 have hl5 := hM.o.lkl
 have hm8 := hM.o.mp.few
 have ht8 := hM.t8
 clear h hM
 unfold machV
 simp only [machC] at HBX |-
 go_enter Tryz.func18, Tryz.ntmps18
 go_upto_region 1 with fail
 generalize w.alloc (.cells #[.slice A0 m.o.reg.length c0, .slice A1 m.o.q.length c1, .slice A2 m.o.lk.length c2, .slice A3 m.o.mp.length c3, .slice At m.t.length ct] 31) = wa at HBX |-
 obtain ⟨x0, x1, x2, x3, x4⟩ := five (t := 31) HBX.out.blk
 obtain ⟨l1, e1⟩ : ∃ x, Pk.encB m.o.reg = x := ⟨_, rfl⟩
 have len1 : Hid (l1.length <= 25) := hD (by rw [<- e1]; have := encB_length m.o.reg; have := HM.out.o.reg; omega)
 obtain ⟨l2, e2⟩ : ∃ x, l1 ++ Pk.enc (Pk.held (m.o.q.length : Int)) = x := ⟨_, rfl⟩
 have len2 : Hid (l2.length <= 34) := hD (len_num e2 len1.out)
 have E1 := hD e1
 have E2 := hD e2
 clear e1 e2
 go_wp2_with (first
  | (go_at_call 16; refine (refputb_in (W := w) (l := []) (x := m.o.reg) (l' := l1) (by rw [<- E1.out]; rfl) (Rd.none_ wa 0 none) HBX.out.rd.o.r0 (by have := HM.out.o.reg; unfold Lim; simp; omega) HBX.out.bel).mono ?_; rintro e w1 ⟨A5, c5, rfl, ho, hB, hb⟩; have HBX := hD (HBX.out.below hb); have HO := hD ho; clear ho hB hb x0 x1 x2 x3 x4; obtain ⟨x0, x1, x2, x3, x4⟩ := five (t := 31) HBX.out.blk)
  | (go_at_call 17; refine (refput_in (W := w) E2.out (by have := len1.out; unfold Lim; omega) (Rd.own_ HO.out) HBX.out.bel).mono ?_; rintro e w2 ⟨A6, c6, rfl, ho, hB, hb⟩; have HBX := hD (HBX.out.below hb); have HO := hD ho; clear ho hB hb x0 x1 x2 x3 x4; obtain ⟨x0, x1, x2, x3, x4⟩ := five (t := 31) HBX.out.blk)
  | fail)
 go_loopw [3, 4] (fun s3 s4 wr => ∃ (k : Nat) (A' : Option Addr) (c' : Nat) (l' : List Nat), k <= m.o.q.length /\ s4 = .int .i64 (k : Int) /\ s3 = .slice A' l'.length c' /\ Hid (OwnB w wr A' l'.length c' l') /\ Hid (l' = l2 ++ encQ (m.o.q.take k)) /\ Hid (BoxM w wr w.heap.size ⟨⟨A0, c0, A1, c1, A2, c2, A3, c3⟩, At, ct⟩ m)) (fun _ s4 _ => m.o.q.length - (intOf s4).toNat)
 case atStart => exact ⟨0, A6, c6, l2, Nat.zero_le _, rfl, rfl, HO, hD (by simp [encQ]), HBX⟩
 case round =>
  clear HBX HO x0 x1 x2 x3 x4
  obtain ⟨k, A', c', l', hk, rfl, rfl, HO, HE, HBX⟩ := hrel
  by_cases hlt : k < m.o.q.length
  · obtain ⟨b, o, x, A7, c7, hA, hx, hcell, hrd⟩ := HBX.out.rd.o.r1.at hlt
    have hA : A1 = some ⟨b, o, none⟩ := hA
    subst hA
    have HX := hD hx
    have HRD := hD hrd
    have lenk : Hid (l'.length <= 234) := hD (len_app HE.out len2.out (encQ_take HM.out.o.qv hq8 k))
    have hx16 : x.length <= 16 := HM.out.o.qv x (List.mem_of_getElem? hx)
    obtain ⟨l'', e''⟩ : ∃ y, l' ++ Pk.encB x = y := ⟨_, rfl⟩
    have E'' := hD e''
    clear e'' hx hrd
    obtain ⟨x0, x1, x2, x3, x4⟩ := five (t := 31) HBX.out.blk
    go_wp2_with (first
     | (go_at_call 16; refine (refputb_in (W := w) E''.out (Rd.own_ HO.out) HRD.out (by have := lenk.out; unfold Lim; omega) HBX.out.bel).mono ?_; rintro e w4 ⟨A8, c8, rfl, ho, hB, hb⟩)
     | fail)
    go_roundw
    case rel => exact ⟨k + 1, A8, c8, l'', by omega, by go_num, rfl, hD ho, hD (by rw [<- E''.out, HE.out, encQ_snoc_at HX.out, List.append_assoc]), hD (HBX.out.below hb)⟩
    case measure => simp only [intOf]; omega
  · obtain rfl : k = m.o.q.length := by omega
    rw [List.take_of_length_le lR] at HE
    obtain ⟨x0, x1, x2, x3, x4⟩ := five (t := 31) HBX.out.blk
    obtain ⟨l3, hl3⟩ : ∃ x, l' = x := ⟨_, rfl⟩
    rw [hl3] at HE HO |-
    clear hl3
    have HE3 := HE
    have len3 : Hid (l3.length <= 234) := hD (len_app HE3.out len2.out (by have := encQ_take HM.out.o.qv hq8 m.o.q.length; rwa [List.take_of_length_le lR] at this))
    obtain ⟨l4, e4⟩ : ∃ x, l3 ++ Pk.enc (Pk.held (m.o.lk.length : Int)) = x := ⟨_, rfl⟩
    have len4 : Hid (l4.length <= 243) := hD (len_num e4 len3.out)
    have E4 := hD e4
    clear e4 HE
    go_wp2_with (first
     | (go_at_call 17; refine (refput_in (W := w) E4.out (by have := len3.out; unfold Lim; omega) (Rd.own_ HO.out) HBX.out.bel).mono ?_; rintro e w2 ⟨A6, c6, rfl, ho, hB, hb⟩; have HBX := hD (HBX.out.below hb); have HO := hD ho; clear ho hB hb x0 x1 x2 x3 x4; obtain ⟨x0, x1, x2, x3, x4⟩ := five (t := 31) HBX.out.blk)
     | fail)
    go_loopw [3, 5] (fun s3 s5 wr => ∃ (k : Nat) (A' : Option Addr) (c' : Nat) (l' : List Nat), k <= m.o.lk.length /\ s5 = .int .i64 (k : Int) /\ s3 = .slice A' l'.length c' /\ Hid (OwnB w wr A' l'.length c' l') /\ Hid (l' = l4 ++ Pk.encs (m.o.lk.take k)) /\ Hid (BoxM w wr w.heap.size ⟨⟨A0, c0, A1, c1, A2, c2, A3, c3⟩, At, ct⟩ m)) (fun _ s5 _ => m.o.lk.length - (intOf s5).toNat)
    case atStart => exact ⟨0, A6, c6, l4, Nat.zero_le _, rfl, rfl, HO, hD (by simp [Pk.encs]), HBX⟩
    case round =>
     clear HBX HO x0 x1 x2 x3 x4
     obtain ⟨k, A', c', l', hk, rfl, rfl, HO, HE, HBX⟩ := hrel
     by_cases hlt : k < m.o.lk.length
     · obtain ⟨z, hz⟩ : ∃ z, m.o.lk[k]? = some z := ⟨_, List.getElem?_eq_getElem hlt⟩
       obtain ⟨b, o, hA, _⟩ := HBX.out.rd.o.r2.int_at hlt
       have hA : A2 = some ⟨b, o, none⟩ := hA
       subst hA
       have hcell := HBX.out.rd.o.r2.int_cell hlt hz
       have HX := hD hz
       have lenk : Hid (l'.length <= 288) := hD (len_app HE.out len4.out (encs_take hl5 k))
       obtain ⟨l'', e''⟩ : ∃ y, l' ++ Pk.enc (Pk.held z) = y := ⟨_, rfl⟩
       have E'' := hD e''
       clear e'' hz
       obtain ⟨x0, x1, x2, x3, x4⟩ := five (t := 31) HBX.out.blk
       go_wp2_with (first
        | (go_at_call 17; refine (refput_in (W := w) E''.out (by have := lenk.out; unfold Lim; omega) (Rd.own_ HO.out) HBX.out.bel).mono ?_; rintro e w4 ⟨A8, c8, rfl, ho, hB, hb⟩)
        | fail)
       go_roundw
       case rel => exact ⟨k + 1, A8, c8, l'', by omega, by go_num, rfl, hD ho, hD (by rw [<- E''.out, HE.out, encs_snoc_at HX.out, List.append_assoc]), hD (HBX.out.below hb)⟩
       case measure => simp only [intOf]; omega
     · obtain rfl : k = m.o.lk.length := by omega
       rw [List.take_of_length_le lR] at HE
       obtain ⟨x0, x1, x2, x3, x4⟩ := five (t := 31) HBX.out.blk
       obtain ⟨l5, hl5'⟩ : ∃ x, l' = x := ⟨_, rfl⟩
       rw [hl5'] at HE HO |-
       clear hl5'
       have HE5 := HE
       have len5 : Hid (l5.length <= 288) := hD (len_app HE5.out len4.out (by have := encs_take hl5 m.o.lk.length; rwa [List.take_of_length_le lR] at this))
       obtain ⟨l6, e6⟩ : ∃ x, l5 ++ Pk.enc (Pk.held (m.o.mp.length : Int)) = x := ⟨_, rfl⟩
       have len6 : Hid (l6.length <= 297) := hD (len_num e6 len5.out)
       have E6 := hD e6
       clear e6 HE
       go_wp2_with (first
        | (go_at_call 17; refine (refput_in (W := w) E6.out (by have := len5.out; unfold Lim; omega) (Rd.own_ HO.out) HBX.out.bel).mono ?_; rintro e w2 ⟨A6, c6, rfl, ho, hB, hb⟩; have HBX := hD (HBX.out.below hb); have HO := hD ho; clear ho hB hb x0 x1 x2 x3 x4; obtain ⟨x0, x1, x2, x3, x4⟩ := five (t := 31) HBX.out.blk)
        | fail)
       go_loopw [3, 6] (fun s3 s6 wr => ∃ (k : Nat) (A' : Option Addr) (c' : Nat) (l' : List Nat), k <= m.o.mp.length /\ s6 = .int .i64 (k : Int) /\ s3 = .slice A' l'.length c' /\ Hid (OwnB w wr A' l'.length c' l') /\ Hid (l' = l6 ++ encP (m.o.mp.take k)) /\ Hid (BoxM w wr w.heap.size ⟨⟨A0, c0, A1, c1, A2, c2, A3, c3⟩, At, ct⟩ m)) (fun _ s6 _ => m.o.mp.length - (intOf s6).toNat)
       case atStart => exact ⟨0, A6, c6, l6, Nat.zero_le _, rfl, rfl, HO, hD (by simp [encP]), HBX⟩
       case round =>
        clear HBX HO x0 x1 x2 x3 x4
        obtain ⟨k, A', c', l', hk, rfl, rfl, HO, HE, HBX⟩ := hrel
        by_cases hlt : k < m.o.mp.length
        · obtain ⟨b, o, p, A7, c7, A8, c8, hA, hp, hcell1, hcell2, hrd1, hrd2⟩ := HBX.out.rd.o.r3.at hlt
          have hA : A3 = some ⟨b, o, none⟩ := hA
          subst hA
          have hblt := World.block_lt_of_cell? _ _ hcell1
          have HX := hD hp
          have HRD1 := hD hrd1.fit
          have HRD2 := hD hrd2.fit
          have hki : (k : Int) < (m.o.mp.length : Int) := by omega
          have hk0 : (0 : Int) <= (k : Int) := by omega
          have hpl := HM.out.o.mp.len p (List.mem_of_getElem? hp)
          have lenk : Hid (l'.length <= 633) := hD (len_app HE.out len6.out (encP_take HM.out.o.mp.len hm8 k))
          obtain ⟨l'', e''⟩ : ∃ y, l' ++ Pk.encB p.1 = y := ⟨_, rfl⟩
          have lenk2 : Hid (l''.length <= 633 + 9 + p.1.length) := hD (len_byt e'' lenk.out)
          obtain ⟨l3', e3'⟩ : ∃ y, l'' ++ Pk.encB p.2 = y := ⟨_, rfl⟩
          have E'' := hD e''
          have E3' := hD e3'
          clear e'' e3' hp hrd1 hrd2
          obtain ⟨x0, x1, x2, x3, x4⟩ := five (t := 31) HBX.out.blk
          go_upto_region 16 with fail
          have hbd : Below wr.heap.size wr wr.drew := (Below.refl _ _).drew
          have HS : Hid ((fun w' => Blk w' w.heap.size 31 #[.slice A0 m.o.reg.length c0, .slice A1 m.o.q.length c1, .slice A2 m.o.lk.length c2, .slice (some ⟨b, o, none⟩) m.o.mp.length c3, .slice At m.t.length ct] /\ w'.cell? ⟨b, o + k * 2, none⟩ = some (.slice A7 p.1.length c7) /\ w'.cell? ⟨b, o + k * 2 + 1, none⟩ = some (.slice A8 p.2.length c8)) wr.drew) := hD ⟨HBX.out.blk.below hbd, (hbd.cell (p := ⟨b, o + k * 2, none⟩) hblt).trans hcell1, (hbd.cell (p := ⟨b, o + k * 2 + 1, none⟩) hblt).trans hcell2⟩
          refine wp_region_held_drew (S := fun w' => Blk w' w.heap.size 31 #[.slice A0 m.o.reg.length c0, .slice A1 m.o.q.length c1, .slice A2 m.o.lk.length c2, .slice (some ⟨b, o, none⟩) m.o.mp.length c3, .slice At m.t.length ct] /\ w'.cell? ⟨b, o + k * 2, none⟩ = some (.slice A7 p.1.length c7) /\ w'.cell? ⟨b, o + k * 2 + 1, none⟩ = some (.slice A8 p.2.length c8)) (by kernel_rfl) HS.out (fun _ => ?_)
          have HB1 := hD (HBX.out.below hbd)
          have HO1 := hD (own_below HO.out hbd)
          have HP1 := hD (HRD1.out.below hbd).fit
          have HP2 := hD (HRD2.out.below hbd).fit
          have hbl1 : Hid (b < wr.drew.heap.size) := hD (Nat.lt_of_lt_of_le hblt hbd.size)
          clear hbd HBX HO HRD1 HRD2 x0 x1 x2 x3 x4 hcell1 hcell2 hblt
          generalize wr.drew = wd at HS HB1 HO1 HP1 HP2 hbl1 |-
          refine tkL (i := 0) (v := .slice A' l'.length c') rfl (fun w _ => by go_simp) HS.out ?_
          refine tkL (i := 1) (v := .pointer (some ⟨w.heap.size, 0, none⟩)) rfl (fun w _ => by go_simp) HS.out ?_
          refine tkL (i := 2) (v := .pointer (some ⟨w.heap.size, 3, none⟩)) rfl (fun w _ => by go_simp) HS.out ?_
          refine tkL (i := 9) (v := .pointer (some ⟨w.heap.size, 0, none⟩)) rfl (fun w _ => by go_simp) HS.out ?_
          refine tkL (i := 10) (v := .pointer (some ⟨w.heap.size, 3, none⟩)) rfl (fun w _ => by go_simp) HS.out ?_
          refine tkL (i := 4) (v := .int .i64 (k : Int)) rfl (fun w _ => by go_simp) HS.out ?_
          refine tkL (i := 12) (v := .int .i64 (k : Int)) rfl (fun w _ => by go_simp) HS.out ?_
          refine tkL (i := 3) (v := .slice (some ⟨b, o, none⟩) m.o.mp.length c3) rfl (fun w h => by obtain ⟨q0, q1, q2, q3, q4⟩ := five h.1; go_simp) HS.out ?_
          refine tkL (i := 11) (v := .slice (some ⟨b, o, none⟩) m.o.mp.length c3) rfl (fun w h => by obtain ⟨q0, q1, q2, q3, q4⟩ := five h.1; go_simp) HS.out ?_
          refine tkL (i := 5) (v := .pointer (some ⟨b, o + k * 2, none⟩)) rfl (fun w _ => by go_simp) HS.out ?_
          refine tkL (i := 13) (v := .pointer (some ⟨b, o + k * 2, none⟩)) rfl (fun w _ => by go_simp) HS.out ?_
          refine tkL (i := 6) (v := .pointer (some ⟨b, o + k * 2, none⟩)) rfl (fun w _ => by go_simp) HS.out ?_
          refine tkL (i := 14) (v := .pointer (some ⟨b, o + k * 2 + 1, none⟩)) rfl (fun w _ => by go_simp) HS.out ?_
          refine tkL (i := 7) (v := .slice A7 p.1.length c7) rfl (fun w h => by have q := h.2.1; go_simp) HS.out ?_
          refine tkL (i := 15) (v := .slice A8 p.2.length c8) rfl (fun w h => by have q := h.2.2; go_simp) HS.out ?_
          refine rdH (rs := [8]) ?_
          refine AllReadyH.cons rfl (fun K hK => ?_) AllReadyH.nil
          go_simp
          refine (refputb_in (W := w) E''.out (Rd.own_ HO1.out) HP1.out (by have := lenk.out; unfold Lim; omega) HB1.out.bel).mono ?_
          rintro e w4 ⟨A9, c9, rfl, ho4, hB4, hb4⟩
          have HS : Hid ((fun w' => Blk w' w.heap.size 31 #[.slice A0 m.o.reg.length c0, .slice A1 m.o.q.length c1, .slice A2 m.o.lk.length c2, .slice (some ⟨b, o, none⟩) m.o.mp.length c3, .slice At m.t.length ct] /\ w'.cell? ⟨b, o + k * 2, none⟩ = some (.slice A7 p.1.length c7) /\ w'.cell? ⟨b, o + k * 2 + 1, none⟩ = some (.slice A8 p.2.length c8)) w4) := hD ⟨HS.out.1.below hb4, (hb4.cell (p := ⟨b, o + k * 2, none⟩) hbl1.out).trans HS.out.2.1, (hb4.cell (p := ⟨b, o + k * 2 + 1, none⟩) hbl1.out).trans HS.out.2.2⟩
          have hbl2 : Hid (b < w4.heap.size) := hD (by have := hb4.size; have := hbl1.out; omega)
          have HB2 := hD (HB1.out.below hb4)
          have HO2 := hD ho4
          have HP3 := hD (HP2.out.below hb4).fit
          clear ho4 hB4 hb4 HB1 HO1 HP1 HP2
          go_simp
          refine hK.out _ _ HS.out (fun _ => ?_)
          clear hK K
          refine rdH (rs := [16]) ?_
          refine AllReadyH.cons rfl (fun K hK => ?_) AllReadyH.nil
          go_simp
          refine (refputb_in (W := w) E3'.out (Rd.own_ HO2.out) HP3.out (by have := lenk2.out; unfold Lim; omega) HB2.out.bel).mono ?_
          rintro e w5 ⟨A9, c9, rfl, ho5, hB5, hb5⟩
          have HS : Hid ((fun w' => Blk w' w.heap.size 31 #[.slice A0 m.o.reg.length c0, .slice A1 m.o.q.length c1, .slice A2 m.o.lk.length c2, .slice (some ⟨b, o, none⟩) m.o.mp.length c3, .slice At m.t.length ct] /\ w'.cell? ⟨b, o + k * 2, none⟩ = some (.slice A7 p.1.length c7) /\ w'.cell? ⟨b, o + k * 2 + 1, none⟩ = some (.slice A8 p.2.length c8)) w5) := hD ⟨HS.out.1.below hb5, (hb5.cell (p := ⟨b, o + k * 2, none⟩) hbl2.out).trans HS.out.2.1, (hb5.cell (p := ⟨b, o + k * 2 + 1, none⟩) hbl2.out).trans HS.out.2.2⟩
          go_simp
          refine hK.out _ _ HS.out (fun _ => ?_)
          clear hK K
          refine rdH (rs := [17]) ?_
          refine AllReadyH.cons rfl (fun K hK => ?_) AllReadyH.nil
          go_simp
          refine hK.out _ _ HS.out (fun _ => ?_)
          clear hK K
          refine wpAnyH_done (by kernel_rfl) ?_ _
          go_wp2_with fail
          go_roundw
          case rel => exact ⟨k + 1, A9, c9, l3', by omega, by go_num, rfl, hD ho5, hD (by rw [<- E3'.out, <- E''.out, HE.out, encP_snoc_at HX.out]; simp only [List.append_assoc]), hD (HB2.out.below hb5)⟩
          case measure => simp only [intOf]; omega
        · obtain rfl : k = m.o.mp.length := by omega
          rw [List.take_of_length_le lR] at HE
          obtain ⟨x0, x1, x2, x3, x4⟩ := five (t := 31) HBX.out.blk
          obtain ⟨l7, hl7⟩ : ∃ x, l' = x := ⟨_, rfl⟩
          rw [hl7] at HE HO |-
          clear hl7
          have HE7 := HE
          have len7 : Hid (l7.length <= 633) := hD (len_app HE7.out len6.out (by have := encP_take HM.out.o.mp.len hm8 m.o.mp.length; rwa [List.take_of_length_le lR] at this))
          obtain ⟨l8, e8⟩ : ∃ x, l7 ++ Pk.enc (Pk.held (m.t.length : Int)) = x := ⟨_, rfl⟩
          have len8 : Hid (l8.length <= 642) := hD (len_num e8 len7.out)
          have E8 := hD e8
          clear e8 HE
          go_wp2_with (first
           | (go_at_call 17; refine (refput_in (W := w) E8.out (by have := len7.out; unfold Lim; omega) (Rd.own_ HO.out) HBX.out.bel).mono ?_; rintro e w2 ⟨A6, c6, rfl, ho, hB, hb⟩; have HBX := hD (HBX.out.below hb); have HO := hD ho; clear ho hB hb x0 x1 x2 x3 x4; obtain ⟨x0, x1, x2, x3, x4⟩ := five (t := 31) HBX.out.blk)
           | fail)
          go_loopw [3, 7] (fun s3 s7 wr => ∃ (k : Nat) (A' : Option Addr) (c' : Nat) (l' : List Nat), k <= m.t.length /\ s7 = .int .i64 (k : Int) /\ s3 = .slice A' l'.length c' /\ Hid (OwnB w wr A' l'.length c' l') /\ Hid (l' = l8 ++ encT (m.t.take k)) /\ Hid (BoxM w wr w.heap.size ⟨⟨A0, c0, A1, c1, A2, c2, A3, c3⟩, At, ct⟩ m)) (fun _ s7 _ => m.t.length - (intOf s7).toNat)
          case atStart => exact ⟨0, A6, c6, l8, Nat.zero_le _, rfl, rfl, HO, hD (by simp [encT]), HBX⟩
          case round =>
           clear HBX HO x0 x1 x2 x3 x4
           obtain ⟨k, A', c', l', hk, rfl, rfl, HO, HE, HBX⟩ := hrel
           by_cases hlt : k < m.t.length
           · obtain ⟨b, o, l, A7, c7, hA, hl, y0, y1, y2, y3, y4, hrd⟩ := HBX.out.rd.t.at hlt
             have hA : At = some ⟨b, o, none⟩ := hA
             subst hA
             have HX := hD hl
             have hki : (k : Int) < (m.t.length : Int) := by omega
             have hk0 : (0 : Int) <= (k : Int) := by omega
             have hv16 : l.v.length <= 16 := (HM.out.t.each l (List.mem_of_getElem? hl)).2.1
             have hln := (HM.out.te l (List.mem_of_getElem? hl)).2.2
             have hw1 : IntKind.i64.wrap (l.n + 1) = l.n + 1 := IntWalk.i64_in _ (by omega)
             have lenk : Hid (l'.length <= 1130) := hD (len_app HE.out len8.out (encT_take (fun l hl => (HM.out.t.each l hl).2.1) ht8 k))
             obtain ⟨p1, e1⟩ : ∃ y, l' ++ Pk.enc (Pk.held l.s) = y := ⟨_, rfl⟩
             have ln1 : Hid (p1.length <= 1139) := hD (len_num e1 lenk.out)
             obtain ⟨p2, e2⟩ : ∃ y, p1 ++ Pk.enc (Pk.held l.q) = y := ⟨_, rfl⟩
             have ln2 : Hid (p2.length <= 1148) := hD (len_num e2 ln1.out)
             obtain ⟨p3, e3⟩ : ∃ y, p2 ++ Pk.enc (Pk.held l.e) = y := ⟨_, rfl⟩
             have ln3 : Hid (p3.length <= 1157) := hD (len_num e3 ln2.out)
             obtain ⟨p4, e4⟩ : ∃ y, p3 ++ Pk.enc (Pk.held (l.n + 1)) = y := ⟨_, rfl⟩
             have ln4 : Hid (p4.length <= 1166) := hD (len_num e4 ln3.out)
             obtain ⟨p5, e5⟩ : ∃ y, p4 ++ Pk.encB l.v = y := ⟨_, rfl⟩
             have Q1 := hD e1
             have Q2 := hD e2
             have Q3 := hD e3
             have Q4 := hD e4
             have Q5 := hD e5
             have HEND : Hid (p5 = l8 ++ encT (m.t.take (k + 1))) := hD (by rw [encT_snoc_at hl, <- e5, <- e4, <- e3, <- e2, <- e1, HE.out]; simp only [List.append_assoc])
             have HRD := hD hrd.fit
             clear e1 e2 e3 e4 e5 hl hrd hln
             obtain ⟨x0, x1, x2, x3, x4⟩ := five (t := 31) HBX.out.blk
             go_upto_region 22 with fail
             have hba : Below wr.heap.size wr (wr.alloc (.cells #[.int .i64 l.s, .int .i64 l.q, .int .i64 l.e, .slice A7 l.v.length c7, .int .i64 l.n] 79)) := (Below.refl _ _).alloc lR _
             have hbd := hba.drew
             have HK : Hid (Blk (wr.alloc (.cells #[.int .i64 l.s, .int .i64 l.q, .int .i64 l.e, .slice A7 l.v.length c7, .int .i64 l.n] 79)).drew wr.heap.size 79 #[.int .i64 l.s, .int .i64 l.q, .int .i64 l.e, .slice A7 l.v.length c7, .int .i64 l.n]) := hD (Blk.new _ _ _).drew
             have HB1 := hD (HBX.out.below hbd)
             have HO1 := hD (own_below HO.out hbd)
             have HP1 := hD (HRD.out.below hbd).fit
             refine wp_region_held_drew (S := fun w' => Blk w' wr.heap.size 79 #[.int .i64 l.s, .int .i64 l.q, .int .i64 l.e, .slice A7 l.v.length c7, .int .i64 l.n]) (by kernel_rfl) HK.out (fun _ => ?_)
             clear hba hbd HBX HO HRD x0 x1 x2 x3 x4 y0 y1 y2 y3 y4
             generalize (wr.alloc (.cells #[.int .i64 l.s, .int .i64 l.q, .int .i64 l.e, .slice A7 l.v.length c7, .int .i64 l.n] 79)).drew = wd at HK HB1 HO1 HP1 |-
             refine tkL (i := 0) (v := .slice A' l'.length c') rfl (fun w _ => by go_simp) HK.out ?_
             refine tkL (i := 1) (v := .pointer (some ⟨wr.heap.size, 0, none⟩)) rfl (fun w _ => by go_simp) HK.out ?_
             refine tkL (i := 4) (v := .pointer (some ⟨wr.heap.size, 1, none⟩)) rfl (fun w _ => by go_simp) HK.out ?_
             refine tkL (i := 2) (v := .int .i64 l.s) rfl (fun w h => by obtain ⟨q0, q1, q2, q3, q4⟩ := five h; go_simp) HK.out ?_
             refine tkL (i := 5) (v := .int .i64 l.q) rfl (fun w h => by obtain ⟨q0, q1, q2, q3, q4⟩ := five h; go_simp) HK.out ?_
             refine rdH (rs := [3]) ?_
             refine AllReadyH.cons rfl (fun K hK => ?_) AllReadyH.nil
             go_simp
             refine (refput_in (W := w) Q1.out (by have := lenk.out; unfold Lim; omega) (Rd.own_ HO1.out) HB1.out.bel).mono ?_
             rintro e w12 ⟨A12, c12, rfl, ho, hB, hb⟩
             have HK := hD (HK.out.below hb)
             have HB2 := hD (HB1.out.below hb)
             have HO2 := hD ho
             have HP2 := hD (HP1.out.below hb).fit
             clear ho hB hb HB1 HO1 HP1
             go_simp
             refine hK.out _ _ HK.out (fun _ => ?_)
             clear hK K
             refine rdH (rs := [6]) ?_
             refine AllReadyH.cons rfl (fun K hK => ?_) AllReadyH.nil
             go_simp
             refine (refput_in (W := w) Q2.out (by have := ln1.out; unfold Lim; omega) (Rd.own_ HO2.out) HB2.out.bel).mono ?_
             rintro e w13 ⟨A13, c13, rfl, ho, hB, hb⟩
             have HK := hD (HK.out.below hb)
             have HB3 := hD (HB2.out.below hb)
             have HO3 := hD ho
             have HP3 := hD (HP2.out.below hb).fit
             clear ho hB hb HB2 HO2 HP2
             go_simp
             refine hK.out _ _ HK.out (fun _ => ?_)
             clear hK K
             refine rdH (rs := [7]) ?_
             refine AllReadyH.cons rfl (fun K hK => ?_) AllReadyH.nil
             go_simp
             refine hK.out _ _ HK.out (fun _ => ?_)
             clear hK K
             refine wpAnyH_done (by kernel_rfl) ?_ _
             go_upto_region 23 with fail
             refine wp_region_held_drew (S := fun w' => Blk w' wr.heap.size 79 #[.int .i64 l.s, .int .i64 l.q, .int .i64 l.e, .slice A7 l.v.length c7, .int .i64 l.n]) (by kernel_rfl) HK.out.drew (fun _ => ?_)
             have hbd : Below w13.heap.size w13 w13.drew := (Below.refl _ _).drew
             have HK := hD (HK.out.below hbd)
             have HB4 := hD (HB3.out.below hbd)
             have HO4 := hD (own_below HO3.out hbd)
             have HP4 := hD (HP3.out.below hbd).fit
             clear hbd HB3 HO3 HP3
             generalize w13.drew = we at HK HB4 HO4 HP4 |-
             refine tkL (i := 0) (v := .slice A13 p2.length c13) rfl (fun w _ => by go_simp) HK.out ?_
             refine tkL (i := 1) (v := .pointer (some ⟨wr.heap.size, 2, none⟩)) rfl (fun w _ => by go_simp) HK.out ?_
             refine tkL (i := 2) (v := .pointer (some ⟨wr.heap.size, 2, none⟩)) rfl (fun w _ => by go_simp) HK.out ?_
             refine tkL (i := 5) (v := .pointer (some ⟨wr.heap.size, 2, none⟩)) rfl (fun w _ => by go_simp) HK.out ?_
             refine tkL (i := 6) (v := .pointer (some ⟨wr.heap.size, 4, none⟩)) rfl (fun w _ => by go_simp) HK.out ?_
             refine tkL (i := 10) (v := .pointer (some ⟨wr.heap.size, 2, none⟩)) rfl (fun w _ => by go_simp) HK.out ?_
             refine tkL (i := 11) (v := .pointer (some ⟨wr.heap.size, 3, none⟩)) rfl (fun w _ => by go_simp) HK.out ?_
             refine tkL (i := 3) (v := .int .i64 l.e) rfl (fun w h => by obtain ⟨q0, q1, q2, q3, q4⟩ := five h; go_simp) HK.out ?_
             refine tkL (i := 7) (v := .int .i64 l.n) rfl (fun w h => by obtain ⟨q0, q1, q2, q3, q4⟩ := five h; go_simp) HK.out ?_
             refine tkL (i := 8) (v := .int .i64 (l.n + 1)) rfl (fun w _ => by go_simp) HK.out ?_
             refine tkL (i := 12) (v := .slice A7 l.v.length c7) rfl (fun w h => by obtain ⟨q0, q1, q2, q3, q4⟩ := five h; go_simp) HK.out ?_
             refine rdH (rs := [4]) ?_
             refine AllReadyH.cons rfl (fun K hK => ?_) AllReadyH.nil
             go_simp
             refine (refput_in (W := w) Q3.out (by have := ln2.out; unfold Lim; omega) (Rd.own_ HO4.out) HB4.out.bel).mono ?_
             rintro e w15 ⟨A15, c15, rfl, ho, hB, hb⟩
             have HK := hD (HK.out.below hb)
             have HB5 := hD (HB4.out.below hb)
             have HO5 := hD ho
             have HP5 := hD (HP4.out.below hb).fit
             clear ho hB hb HB4 HO4 HP4
             go_simp
             refine hK.out _ _ HK.out (fun _ => ?_)
             clear hK K
             refine rdH (rs := [9]) ?_
             refine AllReadyH.cons rfl (fun K hK => ?_) AllReadyH.nil
             go_simp
             refine (refput_in (W := w) Q4.out (by have := ln3.out; unfold Lim; omega) (Rd.own_ HO5.out) HB5.out.bel).mono ?_
             rintro e w16 ⟨A16, c16, rfl, ho, hB, hb⟩
             have HK := hD (HK.out.below hb)
             have HB6 := hD (HB5.out.below hb)
             have HO6 := hD ho
             have HP6 := hD (HP5.out.below hb).fit
             clear ho hB hb HB5 HO5 HP5
             go_simp
             refine hK.out _ _ HK.out (fun _ => ?_)
             clear hK K
             refine rdH (rs := [13]) ?_
             refine AllReadyH.cons rfl (fun K hK => ?_) AllReadyH.nil
             go_simp
             refine (refputb_in (W := w) Q5.out (Rd.own_ HO6.out) HP6.out (by have := ln4.out; unfold Lim; omega) HB6.out.bel).mono ?_
             rintro e w17 ⟨A17, c17, rfl, ho, hB, hb⟩
             have HK := hD (HK.out.below hb)
             go_simp
             refine hK.out _ _ HK.out (fun _ => ?_)
             clear hK K
             refine rdH (rs := [14]) ?_
             refine AllReadyH.cons rfl (fun K hK => ?_) AllReadyH.nil
             go_simp
             refine hK.out _ _ HK.out (fun _ => ?_)
             clear hK K
             refine wpAnyH_done (by kernel_rfl) ?_ _
             go_wp2_with fail
             go_roundw
             case rel => exact ⟨k + 1, A17, c17, p5, by omega, by go_num, rfl, hD ho, hD (HEND.out), hD (HB6.out.below hb)⟩
             case measure => simp only [intOf]; omega
           · obtain rfl : k = m.t.length := by omega
             rw [List.take_of_length_le lR] at HE
             obtain ⟨x0, x1, x2, x3, x4⟩ := five (t := 31) HBX.out.blk
             go_wp2_with fail
             go_ret
             have he : m.enc = l' := by
              rw [HE.out, <- E8.out, HE7.out, <- E6.out, HE5.out, <- E4.out, HE3.out, <- E2.out, <- E1.out]
              unfold Mc.enc encN
              simp only [List.append_assoc]
             rw [he]
             exact ⟨A', c', rfl, HO.out, HBX.out.bel, HBX.out.bel⟩
theorem refEncode_any {W w : World} {a : MA} {m : Mc} {B : Nat} (hM : m.Ok) (h : RdM w B a m) (hB : Below W.heap.size W w) :
 Calls Tryz.prog 18 #[machV a m] w (GotIn W w m.enc) :=
 (refEncode_raw hM h).mono fun en w' ⟨A', c', h1, h2, h3, h4⟩ => ⟨A', c', h1, own_of hB.size h2, hB.trans (h3.mono hB.size), h4⟩
theorem index_any (w : World) {A : Option Addr} {n c B : Nat} {zs : List Int} (x : Int) (h : Rd w B A n (iv zs)) (hn : n <= maxLen) :
 Calls Tryz.prog 116 #[.slice A n c, .int .i64 x] w fun e w' => e = .returned (.int .i64 (placeI zs x)) /\ w = w' := by
 have hl : zs.length = n := by have := h.1; rwa [iv_length] at this
 unfold maxLen at hn
 have HN : Hid (n <= 9223372036854775807) := hD (by omega)
 have HL := hD hl
 have H := hD h
 clear h hl hn
 go_enter Tryz.func116, Tryz.ntmps116
 go_wp2
 go_loopw [8] (fun i wr => ∃ k : Nat, k <= n /\ i = .int .i64 k /\ Hid (∀ j, j < k -> zs[j]? ≠ some x) /\ w = wr) (fun i _ => n - (intOf i).toNat)
 case atStart => exact ⟨0, Nat.zero_le _, rfl, hD (fun j hj => absurd hj (by omega)), rfl⟩
 case round =>
  obtain ⟨k, hk, rfl, HS, rfl⟩ := hrel
  by_cases hlt : k < n
  · obtain ⟨z, hz⟩ : ∃ z, zs[k]? = some z := ⟨_, List.getElem?_eq_getElem (by have := HL.out; omega)⟩
    obtain ⟨b, o, rfl, _⟩ := H.out.int_at hlt
    have hc := H.out.int_cell hlt hz
    have hv : IntKind.i64.wrap ((k : Int) + 1) = (k : Int) + 1 := IntWalk.i64_in _ (by have := HN.out; omega)
    have HZ := hD hz
    clear hz
    by_cases he : z = x
    · subst he
      have HP := hD (place_first HZ.out HS.out)
      go_wp2
      go_ret
      exact ⟨ret_int HP.out.symm, rfl⟩
    · have he' : (x == z) = false := by simpa using fun h => he h.symm
      have HE := hD he
      clear he
      go_wp2
      go_roundw
      case rel =>
       refine ⟨k + 1, by omega, by go_num, hD (fun j hj => ?_), trivial⟩
       rcases Nat.lt_or_ge j k with h1 | h1
       · exact HS.out j h1
       · obtain rfl : j = k := by omega
         rw [HZ.out]
         intro h; injection h with h; exact HE.out h
      case measure => simp [intOf]; omega
  · obtain rfl : k = n := by omega
    have HP := hD (place_none (s := zs) (x := x) (by rw [HL.out]; exact HS.out))
    go_wp2
    go_ret
    exact ⟨ret_int HP.out.symm, rfl⟩
theorem contains_any (w : World) {A : Option Addr} {n c B : Nat} {zs : List Int} (x : Int) (h : Rd w B A n (iv zs)) (hn : n <= maxLen) :
 Calls Tryz.prog 90 #[.slice A n c, .int .i64 x] w fun e w' => e = .returned (.bool (decide (x ∈ zs))) /\ w = w' := by
 have H := hD h
 clear h
 by_cases hx : x ∈ zs
 · obtain ⟨k, hk, hk1, _⟩ := place_lt hx
   have h0 : (0 : Int) <= (k : Int) := by omega
   have HP := hD hk
   rw [decide_eq_true hx]
   clear hk hx
   go_enter Tryz.func90, Tryz.ntmps90
   go_wp2_with (first
    | (go_at_call 116; refine (index_any _ x H.out hn).mono ?_; rintro e w2 ⟨rfl, rfl⟩; rw [HP.out])
    | fail)
   go_ret
   exact ⟨rfl, rfl⟩
 · have HP := hD (place_no hx)
   rw [decide_eq_false hx]
   clear hx
   go_enter Tryz.func90, Tryz.ntmps90
   go_wp2_with (first
    | (go_at_call 116; refine (index_any _ x H.out hn).mono ?_; rintro e w2 ⟨rfl, rfl⟩; rw [HP.out])
    | fail)
   go_ret
   exact ⟨rfl, rfl⟩
theorem cmpB_neg {l m : List Nat} (hl : ∀ x ∈ l, x < 256) (hm : ∀ x ∈ m, x < 256) : (cmpB l m < 0) ↔ Mp.ltB l m = true := by
 unfold cmpB
 induction l generalizing m with
 | nil => cases m <;> simp [Lib.compareBytes, Mp.ltB]
 | cons a l ih =>
   cases m with
   | nil => simp [Lib.compareBytes, Mp.ltB]
   | cons b m =>
     have ha := hl a (by simp)
     have hb := hm b (by simp)
     have ih' := ih (m := m) (fun x hx => hl x (by simp [hx])) (fun x hx => hm x (by simp [hx]))
     have lt1 : ∀ a b : Nat, a < 256 -> b < 256 -> ((UInt8.ofNat a < UInt8.ofNat b) ↔ a < b) := fun a b ha hb => by
      rw [UInt8.lt_iff_toNat_lt]; simp; omega
     simp only [List.map_cons, Lib.compareBytes, Mp.ltB, Bool.or_eq_true, decide_eq_true_eq, Bool.and_eq_true]
     by_cases h1 : a < b
     · rw [if_pos ((lt1 a b ha hb).2 h1)]
       exact ⟨fun _ => .inl h1, fun _ => by omega⟩
     · rw [if_neg (fun h => h1 ((lt1 a b ha hb).1 h))]
       by_cases h2 : b < a
       · rw [if_pos ((lt1 b a hb ha).2 h2)]
         constructor
         · intro h; omega
         · rintro (h | ⟨h, _⟩) <;> omega
       · rw [if_neg (fun h => h2 ((lt1 b a hb ha).1 h))]
         have : a = b := by omega
         rw [ih']
         exact ⟨fun h => .inr ⟨this, h⟩, fun h => h.elim (fun h => absurd h h1) (·.2)⟩
theorem chainB_adj {α : Type} (lt : α -> α -> Bool) (l : List α) : chainB lt l = true ↔ ∀ (j : Nat) (a b : α), l[j]? = some a -> l[j + 1]? = some b -> lt a b = true := by
 induction l with
 | nil => simp [chainB]
 | cons a l ih =>
   cases l with
   | nil => simp [chainB]
   | cons b r =>
     simp only [chainB, Bool.and_eq_true]
     rw [ih]
     constructor
     · rintro ⟨h1, h2⟩ j x y hx hy
       cases j with
       | zero => simp at hx hy; subst hx hy; exact h1
       | succ j => simp only [List.getElem?_cons_succ] at hx hy; exact h2 j x y hx hy
     · intro h
       exact ⟨h 0 a b rfl rfl, fun j x y hx hy => h (j + 1) x y (by simpa using hx) (by simpa using hy)⟩
theorem nodup_snoc {l : List Int} {z : Int} : (l ++ [z]).Nodup ↔ l.Nodup /\ z ∉ l := by
 unfold List.Nodup
 rw [List.pairwise_append]
 constructor
 · rintro ⟨h1, _, h3⟩; exact ⟨h1, fun h => h3 z h z (by simp) rfl⟩
 · rintro ⟨h1, h2⟩; exact ⟨h1, List.pairwise_singleton _ _, fun a ha b hb => by simp at hb; subst hb; rintro rfl; exact h2 ha⟩
set_option maxRecDepth 100000 in
theorem isOnce_any (w : World) {A : Option Addr} {n c B : Nat} {zs : List Int} (h : Rd w B A n (iv zs)) (hn : n <= 1000) (hc : n <= c) :
 Calls Tryz.prog 62 #[.slice A n c] w fun e w' => e = .returned (.bool (decide zs.Nodup)) /\ w = w' := by
 have hl : zs.length = n := by have := h.1; rwa [iv_length] at this
 have HL := hD hl
 have H := hD h
 obtain ⟨i0, hi0, _, _, _⟩ := info_parts cellI.info
 clear h hl
 go_enter Tryz.func62, Tryz.ntmps62
 go_wp2
 go_loopw [3, 4, 7] (fun s3 s4 s7 wr => ∃ k : Nat, k <= n /\ s7 = .int .i64 k /\ Hid ((zs.take k).Nodup) /\ w = wr) (fun _ _ s7 _ => n - (intOf s7).toNat)
 case atStart => exact ⟨0, Nat.zero_le _, rfl, hD (by simp), rfl⟩
 case round =>
  obtain ⟨k, hk, rfl, HS, rfl⟩ := hrel
  by_cases hlt : k < n
  · obtain ⟨z, hz⟩ : ∃ z, zs[k]? = some z := ⟨_, List.getElem?_eq_getElem (by have := HL.out; omega)⟩
    have hcell : ∃ b o, A = some ⟨b, o, none⟩ /\ w.cell? ⟨b, o + k, none⟩ = some (.int .i64 z) := by
     obtain ⟨b, o, e, _⟩ := H.out.int_at hlt
     subst e
     exact ⟨b, o, rfl, H.out.int_cell hlt hz⟩
    obtain ⟨b, o, rfl, hc1⟩ := hcell
    have hsl := fun w => run_slice_to (P := Tryz.prog) Tryz.underlying22 hi0 (some ⟨b, o, none⟩) n c k (by omega) w
    have HZ := hD hz
    have HC : Hid (Calls Tryz.prog 90 #[.slice (some ⟨b, o, none⟩) k c, .int .i64 z] w fun e w' => e = .returned (.bool (decide (z ∈ zs.take k))) /\ w = w') :=
     hD (contains_any w z (B := B) (by rw [iv_take]; exact H.out.take hk) (by unfold maxLen; omega))
    clear hz
    by_cases he : z ∈ zs.take k
    · rw [decide_eq_true he] at HC
      have HNO : Hid (decide zs.Nodup = false) := hD (decide_eq_false (by
       intro hnd
       have h2 : (zs.take (k + 1)).Nodup := List.Pairwise.sublist (List.take_sublist _ _) hnd
       rw [List.take_add_one, HZ.out] at h2
       exact (nodup_snoc.1 h2).2 he))
      clear he
      go_wp2_with (first
       | (go_at_call 90; refine HC.out.mono ?_; rintro e w2 ⟨rfl, rfl⟩)
       | fail)
      go_ret
      exact ⟨ret_bool HNO.out.symm, rfl⟩
    · rw [decide_eq_false he] at HC
      have HN : Hid ((zs.take (k + 1)).Nodup) := hD (by
       rw [List.take_add_one, HZ.out]
       exact nodup_snoc.2 ⟨HS.out, he⟩)
      clear he
      go_wp2_with (first
       | (go_at_call 90; refine HC.out.mono ?_; rintro e w2 ⟨rfl, rfl⟩)
       | fail)
      go_roundw
      case rel => exact ⟨k + 1, by omega, by go_num, HN, trivial⟩
      case measure => simp only [intOf]; omega
  · obtain rfl : k = n := by omega
    have HY : Hid (decide zs.Nodup = true) := hD (decide_eq_true (by have := HS.out; rwa [List.take_of_length_le (by have := HL.out; omega)] at this))
    go_wp2
    go_ret
    exact ⟨ret_bool HY.out.symm, rfl⟩
theorem byKey_any (w : World) {A1 A2 A3 A4 : Option Addr} {n1 c1 n2 c2 n3 c3 n4 c4 B B' : Nat} {k k' : List Nat} (h : Rd w B A1 n1 (bv k)) (h' : Rd w B' A3 n3 (bv k')) :
 Calls Tryz.prog 64 #[.agg #[.slice A1 n1 c1, .slice A2 n2 c2], .agg #[.slice A3 n3 c3, .slice A4 n4 c4]] w fun e w' => e = .returned (.int .i64 (cmpB k k')) /\ Below w.heap.size w w' := by
 have b0 : Below w.heap.size w ((w.alloc (.cells #[.slice A1 n1 c1, .slice A2 n2 c2] 74)).alloc (.cells #[.slice A3 n3 c3, .slice A4 n4 c4] 74)) := ((Below.refl _ _).alloc lR _).alloc (by simp) _
 have H := hD (h.fit.below b0)
 have H' := hD (h'.fit.below b0)
 have HB := hD b0
 have HK1 := hD ((Blk.new w 74 #[.slice A1 n1 c1, .slice A2 n2 c2]).alloc (.cells #[.slice A3 n3 c3, .slice A4 n4 c4] 74))
 have HK2 := hD (Blk.new (w.alloc (.cells #[.slice A1 n1 c1, .slice A2 n2 c2] 74)) 74 #[.slice A3 n3 c3, .slice A4 n4 c4])
 rw [World.size_alloc] at HK2
 clear h h' b0
 go_enter Tryz.func64, Tryz.ntmps64
 go_upto_region 1 with fail
 generalize (w.alloc (.cells #[.slice A1 n1 c1, .slice A2 n2 c2] 74)).alloc (.cells #[.slice A3 n3 c3, .slice A4 n4 c4] 74) = wa at H H' HB HK1 HK2 |-
 have x0 := HK1.out.cell 0
 have y0 := HK2.out.cell 0
 go_wp2_with (first
  | (go_at_call 91; refine (compare_any _ _ _ _ _ _ _ _ _ _ _ H.out H'.out).mono ?_; rintro e w2 ⟨rfl, rfl⟩)
  | fail)
 go_ret
 exact ⟨rfl, HB.out⟩
set_option maxRecDepth 100000 in
theorem cmpI_any (w : World) (x y : Int) : Calls Tryz.prog 118 #[.int .i64 x, .int .i64 y] w fun e w' => (∃ z : Int, e = .returned (.int .i64 z) /\ (z < 0 ↔ x < y)) /\ w = w' := by
 have HNN : ∀ (w : World) (x : Int), Calls Tryz.prog 123 #[.int .i64 x] w fun e w' => e = .returned (.bool false) /\ w = w' := fun w x => by
  go_enter Tryz.func123, Tryz.ntmps123
  go_wp2_with fail
  go_ret
  exact ⟨rfl, rfl⟩
 by_cases h1 : x < y
 · go_enter Tryz.func118, Tryz.ntmps118
   go_wp2_with (first
    | (go_at_call 123; refine (HNN _ _).mono ?_; rintro e w1 ⟨rfl, rfl⟩)
    | fail)
   go_ret
   exact ⟨⟨-1, rfl, by omega⟩, rfl⟩
 · by_cases h2 : y < x
   · go_enter Tryz.func118, Tryz.ntmps118
     go_wp2_with (first
      | (go_at_call 123; refine (HNN _ _).mono ?_; rintro e w1 ⟨rfl, rfl⟩)
      | fail)
     go_ret
     exact ⟨⟨1, rfl, by omega⟩, rfl⟩
   · go_enter Tryz.func118, Tryz.ntmps118
     go_wp2_with (first
      | (go_at_call 123; refine (HNN _ _).mono ?_; rintro e w1 ⟨rfl, rfl⟩)
      | fail)
     go_ret
     exact ⟨⟨0, rfl, by omega⟩, rfl⟩
theorem bySess_any (w : World) {A A' : Option Addr} {c c' : Nat} (a b : Ls) :
 Calls Tryz.prog 93 #[.agg #[.int .i64 a.s, .int .i64 a.q, .int .i64 a.e, .slice A a.v.length c, .int .i64 a.n], .agg #[.int .i64 b.s, .int .i64 b.q, .int .i64 b.e, .slice A' b.v.length c', .int .i64 b.n]] w fun e w' => (∃ z : Int, e = .returned (.int .i64 z) /\ (z < 0 ↔ a.s < b.s)) /\ Below w.heap.size w w' := by
 have b0 : Below w.heap.size w ((w.alloc (.cells #[.int .i64 a.s, .int .i64 a.q, .int .i64 a.e, .slice A a.v.length c, .int .i64 a.n] 79)).alloc (.cells #[.int .i64 b.s, .int .i64 b.q, .int .i64 b.e, .slice A' b.v.length c', .int .i64 b.n] 79)) := ((Below.refl _ _).alloc lR _).alloc (by simp) _
 have HB := hD b0
 have HK1 := hD ((Blk.new w 79 #[.int .i64 a.s, .int .i64 a.q, .int .i64 a.e, .slice A a.v.length c, .int .i64 a.n]).alloc (.cells #[.int .i64 b.s, .int .i64 b.q, .int .i64 b.e, .slice A' b.v.length c', .int .i64 b.n] 79))
 have HK2 := hD (Blk.new (w.alloc (.cells #[.int .i64 a.s, .int .i64 a.q, .int .i64 a.e, .slice A a.v.length c, .int .i64 a.n] 79)) 79 #[.int .i64 b.s, .int .i64 b.q, .int .i64 b.e, .slice A' b.v.length c', .int .i64 b.n])
 rw [World.size_alloc] at HK2
 clear b0
 go_enter Tryz.func93, Tryz.ntmps93
 go_upto_region 1 with fail
 generalize (w.alloc (.cells #[.int .i64 a.s, .int .i64 a.q, .int .i64 a.e, .slice A a.v.length c, .int .i64 a.n] 79)).alloc (.cells #[.int .i64 b.s, .int .i64 b.q, .int .i64 b.e, .slice A' b.v.length c', .int .i64 b.n] 79) = wa at HB HK1 HK2 |-
 have x0 := HK1.out.cell 0
 have y0 := HK2.out.cell 0
 go_wp2_with (first
  | (go_at_call 118; refine (cmpI_any _ _ _).mono ?_; rintro e w2 ⟨⟨z, rfl, hz⟩, rfl⟩; have HZ := hD hz; clear hz)
  | fail)
 go_ret
 exact ⟨⟨z, rfl, HZ.out⟩, HB.out⟩
set_option maxHeartbeats 4000000 in
set_option maxRecDepth 100000 in
theorem isRisingP_any (w : World) {A : Option Addr} {n c B : Nat} {xs : List Pr} (hb : ∀ p ∈ xs, ∀ x ∈ p.1, x < 256) (h : RdP w B A n xs) (hn : n <= 1000) :
 Calls Tryz.prog 63 #[.slice A n c, .func (.func 64) #[] #[]] w fun e w' => e = .returned (.bool (chainB (fun p q : Pr => Mp.ltB p.1 q.1) xs)) /\ Below w.heap.size w w' := by
 have hl := h.length
 have HL := hD hl
 have H := hD h.fit
 have HBY := hD hb
 clear h hl hb
 go_enter Tryz.func63, Tryz.ntmps63
 go_wp2
 go_loopw [5] (fun s5 wr => ∃ j : Nat, j <= n /\ s5 = .int .i64 ((j : Int) + 1) /\ Hid (∀ (i : Nat) (a b : Pr), i < j -> xs[i]? = some a -> xs[i + 1]? = some b -> (fun p q : Pr => Mp.ltB p.1 q.1) a b = true) /\ Hid (Below w.heap.size w wr)) (fun s5 _ => n + 1 - (intOf s5).toNat)
 case atStart => exact ⟨0, Nat.zero_le _, rfl, hD (fun i a b hi => absurd hi (by omega)), hD (Below.refl _ _)⟩
 case round =>
  obtain ⟨j, hj, rfl, HS, HB⟩ := hrel
  by_cases hlt : j + 1 < n
  · have hi1 : (j : Int) + 1 < (n : Int) := by omega
    have hi2 : IntKind.i64.wrap ((j : Int) + 1 - 1) = (j : Int) := by rw [show (j : Int) + 1 - 1 = (j : Int) by omega]; exact IntWalk.i64_in _ (by omega)
    have hi3 : IntKind.i64.wrap ((j : Int) + 1 + 1) = (j : Int) + 1 + 1 := IntWalk.i64_in _ (by omega)
    have hi4 : (j : Int) < (n : Int) := by omega
    have hi5 : IntKind.i64.wrap (j : Int) = (j : Int) := IntWalk.i64_in _ (by omega)
    have hi6 : ¬ (j : Int) + 1 < 0 := by omega
    obtain ⟨b, o, p, A1, c1, A2, c2, rfl, hp, u0, u1, hrp, _⟩ := H.out.at (k := j) (by omega)
    obtain ⟨b', o', q, D1, d1, D2, d2, e, hq, v0, v1, hrq, _⟩ := H.out.at (k := j + 1) (by omega)
    injection e with e
    injection e with e1 e2
    subst e1 e2
    have HC : Hid (∀ wx, Below w.heap.size w wx -> (wx.cell? ⟨b, o + j * 2, none⟩ = some (.slice A1 p.1.length c1) /\ wx.cell? ⟨b, o + j * 2 + 1, none⟩ = some (.slice A2 p.2.length c2)) /\ wx.cell? ⟨b, o + (j + 1) * 2, none⟩ = some (.slice D1 q.1.length d1) /\ wx.cell? ⟨b, o + (j + 1) * 2 + 1, none⟩ = some (.slice D2 q.2.length d2)) :=
     hD (fun wx hb => ⟨⟨(hb.cell (World.block_lt_of_cell? _ _ u0)).trans u0, (hb.cell (World.block_lt_of_cell? _ _ u1)).trans u1⟩, (hb.cell (World.block_lt_of_cell? _ _ v0)).trans v0, (hb.cell (World.block_lt_of_cell? _ _ v1)).trans v1⟩)
    have HRP := hD hrp
    have HRQ := hD hrq
    have HBP := hD (And.intro (HBY.out p (List.mem_of_getElem? hp)) (HBY.out q (List.mem_of_getElem? hq)))
    have HP := hD (And.intro hp hq)
    clear u0 u1 v0 v1 hrp hrq hp hq
    go_upto_region 4 with fail
    have hS0 : Below w.heap.size w wr.drew := HB.out.trans ((Below.refl _ _).drew.mono HB.out.size)
    refine wp_region_held_drew (S := fun w' => Below w.heap.size w w') (by kernel_rfl) hS0 (fun _ => ?_)
    have hS := hD hS0
    clear hS0
    generalize wr.drew = wd at hS |-
    refine tkL (i := 0) (v := .func (.func 64) #[] #[]) rfl (fun w _ => by go_simp) hS.out ?_
    refine tkL (i := 1) (v := .slice (some ⟨b, o, none⟩) n c) rfl (fun w _ => by go_simp) hS.out ?_
    refine tkL (i := 2) (v := .int .i64 ((j : Int) + 1)) rfl (fun w _ => by go_simp) hS.out ?_
    refine tkL (i := 3) (v := .int .i64 (j : Int)) rfl (fun w _ => by go_simp) hS.out ?_
    refine tkL (i := 6) (v := .slice (some ⟨b, o, none⟩) n c) rfl (fun w _ => by go_simp) hS.out ?_
    refine tkL (i := 7) (v := .int .i64 ((j : Int) + 1)) rfl (fun w _ => by go_simp) hS.out ?_
    refine tkL (i := 4) (v := .pointer (some ⟨b, o + j * 2, none⟩)) rfl (fun w _ => by go_simp) hS.out ?_
    refine tkL (i := 8) (v := .pointer (some ⟨b, o + (j + 1) * 2, none⟩)) rfl (fun w _ => by go_simp) hS.out ?_
    refine tkL (i := 5) (v := .agg #[.slice A1 p.1.length c1, .slice A2 p.2.length c2]) rfl (fun w h => by obtain ⟨⟨q0, q1⟩, q2, q3⟩ := HC.out w h; go_simp) hS.out ?_
    refine tkL (i := 9) (v := .agg #[.slice D1 q.1.length d1, .slice D2 q.2.length d2]) rfl (fun w h => by obtain ⟨⟨q0, q1⟩, q2, q3⟩ := HC.out w h; go_simp) hS.out ?_
    refine rdH (rs := [10]) ?_
    refine AllReadyH.cons rfl (fun K hK => ?_) AllReadyH.nil
    go_simp
    refine (byKey_any _ (HRP.out.below hS.out) (HRQ.out.below hS.out)).mono ?_
    rintro e w2 ⟨rfl, hb2⟩
    have hS := hD (hS.out.trans (hb2.mono hS.out.size))
    clear hb2
    go_simp
    refine hK.out _ _ hS.out (fun _ => ?_)
    clear hK K
    obtain ⟨z, hz⟩ : ∃ z, cmpB p.1 q.1 = z := ⟨_, rfl⟩
    have HZ := hD (cmpB_neg HBP.out.1 HBP.out.2)
    rw [hz] at HZ |-
    clear hz
    by_cases hzz : z < 0
    · have hz0 : ¬ (0 : Int) <= z := by omega
      have HT := hD (HZ.out.1 hzz)
      clear hzz
      refine tkL (i := 11) (v := .bool false) rfl (fun w _ => by go_simp) hS.out ?_
      refine wpAnyH_done (by kernel_rfl) ?_ _
      go_wp2_with fail
      go_roundw
      case rel =>
       refine ⟨j + 1, by omega, by go_num, hD (fun i a b hi ha hb => ?_), hS⟩
       rcases Nat.lt_or_ge i j with h1 | h1
       · exact HS.out i a b h1 ha hb
       · obtain rfl : i = j := by omega
         obtain ⟨g1, g2⟩ := HP.out
         rw [ha] at g1
         rw [hb] at g2
         injection g1 with g1
         injection g2 with g2
         subst g1 g2
         exact HT.out
      case measure => simp only [intOf]; omega
    · have hz0 : (0 : Int) <= z := by omega
      have HT : Hid (¬ Mp.ltB p.1 q.1 = true) := hD (fun h => hzz (HZ.out.2 h))
      clear hzz
      refine tkL (i := 11) (v := .bool true) rfl (fun w _ => by go_simp) hS.out ?_
      refine wpAnyH_done (by kernel_rfl) ?_ _
      have HF : Hid (chainB (fun p q : Pr => Mp.ltB p.1 q.1) xs = false) := hD (by
       rw [Bool.eq_false_iff]
       intro h
       exact HT.out ((chainB_adj _ _).1 h j p q HP.out.1 HP.out.2))
      go_wp2_with fail
      go_ret
      exact ⟨ret_bool HF.out.symm, hS.out⟩
  · have hi1 : ¬ (j : Int) + 1 < (n : Int) := by omega
    have HY : Hid (chainB (fun p q : Pr => Mp.ltB p.1 q.1) xs = true) := hD ((chainB_adj _ _).2 fun i a b ha hb => HS.out i a b (by have := (List.getElem?_eq_some_iff.1 hb).1; have := HL.out; omega) ha hb)
    go_wp2_with fail
    go_ret
    exact ⟨ret_bool HY.out.symm, HB.out⟩
set_option maxHeartbeats 4000000 in
set_option maxRecDepth 100000 in
theorem isRisingT_any (w : World) {A : Option Addr} {n c B : Nat} {xs : List Ls} (h : RdL w B A n xs) (hn : n <= 1000) :
 Calls Tryz.prog 92 #[.slice A n c, .func (.func 93) #[] #[]] w fun e w' => e = .returned (.bool (chainB (fun a b : Ls => decide (a.s < b.s)) xs)) /\ Below w.heap.size w w' := by
 have hl := h.length
 have HL := hD hl
 have H := hD h.fit
 clear h hl
 go_enter Tryz.func92, Tryz.ntmps92
 go_wp2
 go_loopw [5] (fun s5 wr => ∃ j : Nat, j <= n /\ s5 = .int .i64 ((j : Int) + 1) /\ Hid (∀ (i : Nat) (a b : Ls), i < j -> xs[i]? = some a -> xs[i + 1]? = some b -> (fun a b : Ls => decide (a.s < b.s)) a b = true) /\ Hid (Below w.heap.size w wr)) (fun s5 _ => n + 1 - (intOf s5).toNat)
 case atStart => exact ⟨0, Nat.zero_le _, rfl, hD (fun i a b hi => absurd hi (by omega)), hD (Below.refl _ _)⟩
 case round =>
  obtain ⟨j, hj, rfl, HS, HB⟩ := hrel
  by_cases hlt : j + 1 < n
  · have hi1 : (j : Int) + 1 < (n : Int) := by omega
    have hi2 : IntKind.i64.wrap ((j : Int) + 1 - 1) = (j : Int) := by rw [show (j : Int) + 1 - 1 = (j : Int) by omega]; exact IntWalk.i64_in _ (by omega)
    have hi3 : IntKind.i64.wrap ((j : Int) + 1 + 1) = (j : Int) + 1 + 1 := IntWalk.i64_in _ (by omega)
    have hi4 : (j : Int) < (n : Int) := by omega
    have hi5 : IntKind.i64.wrap (j : Int) = (j : Int) := IntWalk.i64_in _ (by omega)
    have hi6 : ¬ (j : Int) + 1 < 0 := by omega
    obtain ⟨b, o, p, A1, c1, rfl, hp, u0, u1, u2, u3, u4, hrp⟩ := H.out.at (k := j) (by omega)
    obtain ⟨b', o', q, D1, d1, e, hq, v0, v1, v2, v3, v4, hrq⟩ := H.out.at (k := j + 1) (by omega)
    injection e with e
    injection e with e1 e2
    subst e1 e2
    have HC : Hid (∀ wx, Below w.heap.size w wx -> (wx.cell? ⟨b, o + j * 5, none⟩ = some (.int .i64 p.s) /\ wx.cell? ⟨b, o + j * 5 + 1, none⟩ = some (.int .i64 p.q) /\ wx.cell? ⟨b, o + j * 5 + 2, none⟩ = some (.int .i64 p.e) /\ wx.cell? ⟨b, o + j * 5 + 3, none⟩ = some (.slice A1 p.v.length c1) /\ wx.cell? ⟨b, o + j * 5 + 4, none⟩ = some (.int .i64 p.n)) /\ wx.cell? ⟨b, o + (j + 1) * 5, none⟩ = some (.int .i64 q.s) /\ wx.cell? ⟨b, o + (j + 1) * 5 + 1, none⟩ = some (.int .i64 q.q) /\ wx.cell? ⟨b, o + (j + 1) * 5 + 2, none⟩ = some (.int .i64 q.e) /\ wx.cell? ⟨b, o + (j + 1) * 5 + 3, none⟩ = some (.slice D1 q.v.length d1) /\ wx.cell? ⟨b, o + (j + 1) * 5 + 4, none⟩ = some (.int .i64 q.n)) :=
     hD (fun wx hb => ⟨⟨(hb.cell (World.block_lt_of_cell? _ _ u0)).trans u0, (hb.cell (World.block_lt_of_cell? _ _ u1)).trans u1, (hb.cell (World.block_lt_of_cell? _ _ u2)).trans u2, (hb.cell (World.block_lt_of_cell? _ _ u3)).trans u3, (hb.cell (World.block_lt_of_cell? _ _ u4)).trans u4⟩, (hb.cell (World.block_lt_of_cell? _ _ v0)).trans v0, (hb.cell (World.block_lt_of_cell? _ _ v1)).trans v1, (hb.cell (World.block_lt_of_cell? _ _ v2)).trans v2, (hb.cell (World.block_lt_of_cell? _ _ v3)).trans v3, (hb.cell (World.block_lt_of_cell? _ _ v4)).trans v4⟩)
    have HP := hD (And.intro hp hq)
    clear u0 u1 u2 u3 u4 v0 v1 v2 v3 v4 hrp hrq hp hq
    go_upto_region 4 with fail
    have hS0 : Below w.heap.size w wr.drew := HB.out.trans ((Below.refl _ _).drew.mono HB.out.size)
    refine wp_region_held_drew (S := fun w' => Below w.heap.size w w') (by kernel_rfl) hS0 (fun _ => ?_)
    have hS := hD hS0
    clear hS0
    generalize wr.drew = wd at hS |-
    refine tkL (i := 0) (v := .func (.func 93) #[] #[]) rfl (fun w _ => by go_simp) hS.out ?_
    refine tkL (i := 1) (v := .slice (some ⟨b, o, none⟩) n c) rfl (fun w _ => by go_simp) hS.out ?_
    refine tkL (i := 2) (v := .int .i64 ((j : Int) + 1)) rfl (fun w _ => by go_simp) hS.out ?_
    refine tkL (i := 3) (v := .int .i64 (j : Int)) rfl (fun w _ => by go_simp) hS.out ?_
    refine tkL (i := 6) (v := .slice (some ⟨b, o, none⟩) n c) rfl (fun w _ => by go_simp) hS.out ?_
    refine tkL (i := 7) (v := .int .i64 ((j : Int) + 1)) rfl (fun w _ => by go_simp) hS.out ?_
    refine tkL (i := 4) (v := .pointer (some ⟨b, o + j * 5, none⟩)) rfl (fun w _ => by go_simp) hS.out ?_
    refine tkL (i := 8) (v := .pointer (some ⟨b, o + (j + 1) * 5, none⟩)) rfl (fun w _ => by go_simp) hS.out ?_
    refine tkL (i := 5) (v := .agg #[.int .i64 p.s, .int .i64 p.q, .int .i64 p.e, .slice A1 p.v.length c1, .int .i64 p.n]) rfl (fun w h => by obtain ⟨⟨q0, q1, q2, q3, q4⟩, q5, q6, q7, q8, q9⟩ := HC.out w h; go_simp) hS.out ?_
    refine tkL (i := 9) (v := .agg #[.int .i64 q.s, .int .i64 q.q, .int .i64 q.e, .slice D1 q.v.length d1, .int .i64 q.n]) rfl (fun w h => by obtain ⟨⟨q0, q1, q2, q3, q4⟩, q5, q6, q7, q8, q9⟩ := HC.out w h; go_simp) hS.out ?_
    refine rdH (rs := [10]) ?_
    refine AllReadyH.cons rfl (fun K hK => ?_) AllReadyH.nil
    go_simp
    refine (bySess_any _ p q).mono ?_
    rintro e w2 ⟨⟨z, rfl, hz⟩, hb2⟩
    have HZ := hD hz
    clear hz
    have hS := hD (hS.out.trans (hb2.mono hS.out.size))
    clear hb2
    go_simp
    refine hK.out _ _ hS.out (fun _ => ?_)
    clear hK K
    by_cases hzz : z < 0
    · have hz0 : ¬ (0 : Int) <= z := by omega
      have HT := hD (HZ.out.1 hzz)
      clear hzz
      refine tkL (i := 11) (v := .bool false) rfl (fun w _ => by go_simp) hS.out ?_
      refine wpAnyH_done (by kernel_rfl) ?_ _
      go_wp2_with fail
      go_roundw
      case rel =>
       refine ⟨j + 1, by omega, by go_num, hD (fun i a b hi ha hb => ?_), hS⟩
       rcases Nat.lt_or_ge i j with h1 | h1
       · exact HS.out i a b h1 ha hb
       · obtain rfl : i = j := by omega
         obtain ⟨g1, g2⟩ := HP.out
         rw [ha] at g1
         rw [hb] at g2
         injection g1 with g1
         injection g2 with g2
         subst g1 g2
         exact decide_eq_true HT.out
      case measure => simp only [intOf]; omega
    · have hz0 : (0 : Int) <= z := by omega
      have HT : Hid (¬ p.s < q.s) := hD (fun h => hzz (HZ.out.2 h))
      clear hzz
      refine tkL (i := 11) (v := .bool true) rfl (fun w _ => by go_simp) hS.out ?_
      refine wpAnyH_done (by kernel_rfl) ?_ _
      have HF : Hid (chainB (fun a b : Ls => decide (a.s < b.s)) xs = false) := hD (by
       rw [Bool.eq_false_iff]
       intro h
       exact HT.out (of_decide_eq_true ((chainB_adj _ _).1 h j p q HP.out.1 HP.out.2)))
      go_wp2_with fail
      go_ret
      exact ⟨ret_bool HF.out.symm, hS.out⟩
  · have hi1 : ¬ (j : Int) + 1 < (n : Int) := by omega
    have HY : Hid (chainB (fun a b : Ls => decide (a.s < b.s)) xs = true) := hD ((chainB_adj _ _).2 fun i a b ha hb => HS.out i a b (by have := (List.getElem?_eq_some_iff.1 hb).1; have := HL.out; omega) ha hb)
    go_wp2_with fail
    go_ret
    exact ⟨ret_bool HY.out.symm, HB.out⟩
end Go.Proofs.YtmekamgohonffaaGreat
